/-
  TreesPlay returns true: the walk.
-/
import Derived.Test.YthkceffnfhdjhaaDPW
import Derived.Deep.DeepCutAuto
namespace Go.Proofs.Ythkceffnfhdjhaa
open Go.RowKit Go.Deep

theorem keep4 {w w' : World} {g i : Nat} {v : Value} (hb : Below w.heap.size w w') (h : w.cell? ⟨g, i, none⟩ = some v) : w'.cell? ⟨g, i, none⟩ = some v := DI.keep1 hb h
theorem step_put {l : List (Int × Int)} {p : (Nat × Int) × Nat} (h : p.1.1 % 3 < 2) : stepO l p = Tr.putL id l p.1.2 p.2 := by unfold stepO; rw [if_pos h]
theorem step_drop {l : List (Int × Int)} {p : (Nat × Int) × Nat} (h : ¬ p.1.1 % 3 < 2) : stepO l p = Tr.dropL id l p.1.2 := by unfold stepO; rw [if_neg h]

theorem mem_one {lb : List ((Option Addr × Nat) × List (Int × Int))} {a : Option Addr × Nat} {l : List (Int × Int)} (h : ∀ e ∈ lb, e.2.length ≤ 150) (hl : l.length ≤ 150) : ∀ e ∈ lb ++ [(a, l)], e.2.length ≤ 150 := fun e he => by
  rcases List.mem_append.1 he with he | he
  · exact h e he
  · rw [List.mem_singleton.1 he]; exact hl
set_option maxRecDepth 20000 in
set_option maxHeartbeats 4000000 in
theorem play_walk (A : Option Addr) (c : Nat) (L : List (Nat × Int)) (w : World) (hin : OIn w A L) :
    Calls Try.prog 3 #[.slice A L.length c] w fun e w' => e = .returned (.bool true) ∧ Below w.heap.size w w' := by
  have HI := hid hin
  clear hin
  generalize hn : L.length = n at *
  have HLN := hid hn
  clear hn
  go_enter Try.func3, Try.ntmps3
  go_wp2_with fail
  refine (DI.new_l _ id w).mono ?_
  rintro _ w1 ⟨T0, rfl, hm, hb⟩
  have HP := hid (ps_start hm hb)
  clear hm hb
  go_wp2
  generalize w1.alloc (.cells #[oF, .pointer T0.ad] 26 (0, 0)) = w2 at *
  generalize w1.heap.size = q at *
  go_loopg [4, 5, 6, 7] 150 (fun m u4 u5 u6 x wr => ∃ (i : Nat) (T : Tr Int) (A1 : Option Addr) (c1 : Nat) (ma : List (Tr Int × List (Int × Int))) (lb : List ((Option Addr × Nat) × List (Int × Int))), m = 150 - i ∧ i ≤ n ∧ i ≤ 150 ∧ x = .int .i64 (i : Nat) ∧ u4 = .slice A1 (runO L i).length c1 ∧ PS w wr q T (runO L i) A1 (runO L i) u5 ma u6 lb ∧ ma.map (·.2) = lb.map (·.2) ∧ (∀ e ∈ lb, e.2.length ≤ 150) ∧ ma.length ≤ i)
  case atStart => exact ⟨0, T0, none, 0, [], [], rfl, Nat.zero_le _, Nat.zero_le _, rfl, by rw [runO_zero]; rfl, by rw [runO_zero]; exact HP.out, rfl, (fun _ h => by cases h), Nat.zero_le _⟩
  case round =>
    obtain ⟨i, T, A1, c1, ma, lb, hm, hi, hi2, rfl, rfl, hP, hmm, hl5, hma⟩ := hrel
    have HM := hid hm
    clear HP hm
    have HP := hid hP
    have HE := hid (And.intro hmm (And.intro hl5 hma))
    clear hP hmm hl5 hma
    by_cases hlt : i < n ∧ i < 150
    · obtain ⟨hlt, hlt2⟩ := hlt
      have hiL : i < L.length := by rw [HLN.out]; exact hlt
      obtain ⟨g, o, rfl, hg, hcells⟩ := HI.out (fun e => by rw [e] at hiL; exact absurd hiL (Nat.not_lt_zero _))
      obtain ⟨e0, e1, hk8, hk1, hk2⟩ := hcells i hiL
      clear hcells
      have hsucc := runO_succ hiL
      have hasc := runO_asc L i (Nat.le_of_lt hiL)
      have hlen := runO_len L i (Nat.le_of_lt hiL)
      have hlen2 := runO_len L (i + 1) hiL
      rw [hsucc] at hlen2
      have HS := hid hsucc
      generalize runO L i = l at *
      have hst : (L[i], i).1.1 % 3 < 2 ∨ ¬ (L[i], i).1.1 % 3 < 2 := Classical.em _
      generalize hpi : (L[i], i) = pi at *
      have hp1 : L[i].1 = pi.1.1 := by rw [← hpi]
      have hp2 : L[i].2 = pi.1.2 := by rw [← hpi]
      have hp3 : i = pi.2 := by rw [← hpi]
      have HK := hid (And.intro hasc (And.intro hlen (And.intro hlen2 (And.intro hlt hlt2))))
      have HPI := hid hp3
      rw [hp1] at e0 hk8
      rw [hp2] at e1 hk1 hk2
      have HG := hid (show ∀ W', Below w.heap.size w W' → W'.cell? ⟨g, o + i * 2, none⟩ = some (.int .u8 (pi.1.1 : Nat)) ∧ W'.cell? ⟨g, o + i * 2 + 1, none⟩ = some (.int .i16 pi.1.2) from fun W' hb => ⟨((bcell hb).1 g _ hg).trans e0, ((bcell hb).1 g _ hg).trans e1⟩)
      have hlt' : (i : Int) < (n : Int) := by omega
      have hlt2' : (i : Int) < 150 := by omega
      have h0 : (0 : Int) ≤ (i : Int) := by omega
      obtain ⟨k0, k1, f0, f1⟩ := HP.out.cells
      clear hi hi2 hiL hasc hlen hlen2 hlt hlt2 hp1 hp2 hp3 hpi hsucc e0 e1
      go_upto_if 23 with fail
      go_cut [5, 6] from 11 to 74 (fun u5' u6' wx => ∃ (ma : List (Tr Int × List (Int × Int))) (lb : List ((Option Addr × Nat) × List (Int × Int))), PS w wx q T l A1 l u5' ma u6' lb ∧ ma.map (·.2) = lb.map (·.2) ∧ (∀ e ∈ lb, e.2.length ≤ 150) ∧ ma.length ≤ i + 1)
      case first =>
        have hin : l.length ≤ 150 := by have := HK.out.2.1; have := HK.out.2.2.2; omega
        have HIN := hid hin
        clear hin hst
        have hma := HE.out.2.2
        have hlb : lb.length = ma.length := by have := congrArg List.length HE.out.1; simpa using this.symm
        have HLB := hid (And.intro hma hlb)
        clear hma hlb
        by_cases h25 : i % 25 = 0
        · have h25' : ((i : Int) % 25 == 0) = true := by simp; omega
          clear h25
          go_wp2_with (first | (at_builtin; refine wp_keepM _ _ rfl rfl wr HP.out rfl rfl rfl (by have := HLB.out; have := HK.out.2.2.2; omega) ?_; intro v1 wa hPa) | (at_builtin; refine wp_keepL _ _ rfl rfl wa c1 hPa rfl rfl rfl (by have := HLB.out; have := HK.out.2.2.2; omega) ?_; intro v2 wb hPb))
          go_meet
          exact ⟨_, _, hPb, by rw [List.map_append, List.map_append, HE.out.1]; rfl, mem_one HE.out.2.1 HIN.out, by rw [List.length_append, List.length_singleton]; have := HLB.out; omega⟩
        · have h25' : ((i : Int) % 25 == 0) = false := by simp; omega
          clear h25
          go_wp2
          go_meet
          exact ⟨ma, lb, HP.out, HE.out.1, HE.out.2.1, by have := HLB.out; omega⟩
      case rest =>
        obtain ⟨ma', lb', hP, hmm, hl5, hma⟩ := hcut
        clear HP HE
        have HP := hid hP
        have HE := hid (And.intro hmm (And.intro hl5 hma))
        clear hP hmm hl5 hma k0 k1 f0 f1
        obtain ⟨k0, k1, f0, f1⟩ := HP.out.cells
        obtain ⟨e0, e1⟩ := HG.out _ HP.out.bel
        have hin : l.length ≤ 150 := by have := HK.out.2.1; have := HK.out.2.2.2; omega
        have HIN := hid hin
        clear hin
        go_upto_if 44 with fail
        go_cut [4] from 11 to 74 (fun u4' wx => ∃ (T' : Tr Int) (A' : Option Addr) (c' : Nat), u4' = .slice A' (stepO l pi).length c' ∧ PS w wx q T' (stepO l pi) A' (stepO l pi) u5 ma' u6 lb')
        case first =>
          rcases hst with hst | hst
          · have hst' : ((pi.1.1 : Int) % 3 < 2) := by omega
            have HST := hid (step_put (l := l) hst)
            clear hst
            go_wp2_with fail
            refine (DI.put_l iOrd Tr.ordI_f _ _ HP.out.map (by have := HIN.out; omega)).mono ?_
            rintro _ wn ⟨T', rfl, hm, hb⟩
            have HP2 := hid (HP.out.below hb)
            clear k0 k1 f0 f1 e0 e1
            obtain ⟨k0, k1, f0, f1⟩ := HP2.out.cells
            have HP3 := hid (HP2.out.store hm)
            clear HP2 hm hb
            go_wp2_with fail
            refine (rput_any A1 c1 l _ _ _ HP3.out.row (by have := HIN.out; omega)).mono ?_
            rintro _ wz ⟨A', c', rfl, hr, hb⟩
            have HP4 := hid ((HP3.out.below hb).row' hr)
            clear hb hr
            go_wp2
            go_meet
            have h4 := HP4.out
            rw [Tr.rp_put HK.out.1] at h4 ⊢
            rw [HST.out, ← HPI.out]
            exact ⟨T', A', c', rfl, h4⟩
          · have hst' : ¬ ((pi.1.1 : Int) % 3 < 2) := by omega
            have HST := hid (step_drop (l := l) hst)
            clear hst
            go_wp2_with fail
            refine (DI.drop_m iOrd Tr.ordI_f _ HP.out.map (by have := HIN.out; omega)).mono ?_
            rintro _ wn ⟨T', rfl, hm, hb⟩
            have HP2 := hid (HP.out.below hb)
            clear k0 k1 f0 f1 e0 e1
            obtain ⟨k0, k1, f0, f1⟩ := HP2.out.cells
            have HP3 := hid (HP2.out.store hm)
            clear HP2 hm hb
            go_wp2_with fail
            refine (rdrop_any A1 c1 l _ _ HP3.out.row (by have := HIN.out; omega)).mono ?_
            rintro _ wz ⟨A', c', rfl, hr, hb⟩
            have HP4 := hid ((HP3.out.below hb).row' hr)
            clear hb hr
            go_wp2
            go_meet
            rw [HST.out]
            exact ⟨T', A', c', rfl, HP4.out⟩
        case rest =>
          obtain ⟨T', A', c', rfl, hP⟩ := hcut
          clear HP k0 k1 f0 f1 e0 e1 hst
          have HP := hid hP
          clear hP
          obtain ⟨k0, k1, f0, f1⟩ := HP.out.cells
          clear f0 f1
          have HL2 := hid (show (stepO l pi).length ≤ 150 from by have := HK.out.2.2.1; have := HK.out.2.2.2; omega)
          have HS2 := hid HS.out
          clear HS
          generalize stepO l pi = l' at *
          go_wp2_with fail
          refine (DI.len_l _ HP.out.map).mono ?_
          rintro _ wn ⟨rfl, hb⟩
          have HP2 := hid (HP.out.below hb)
          clear HP hb k0 k1
          have HP := hid HP2.out
          clear HP2
          obtain ⟨k0, k1, f0, f1⟩ := HP.out.cells
          clear f0 f1
          by_cases h7 : i % 7 = 0
          · have h7' : ((i : Int) % 7 == 0) = true := by simp; omega
            clear h7
            go_wp2_with fail
            refine (whole_any T' A' c' l' _ HP.out.map HP.out.row (by have := HL2.out; omega)).mono ?_
            rintro _ wz ⟨rfl, hb⟩
            have HP2 := hid (HP.out.below hb)
            clear HP hb k0 k1
            have HP := hid HP2.out
            clear HP2
            go_wp2
            go_roundg (150 - (i + 1))
            case measure => rw [HM.out]; have := HK.out.2.2.2; omega
            case rel => exact ⟨i + 1, T', A', c', ma', lb', rfl, by have := HK.out.2.2.2; omega, by have := HK.out.2.2.2; omega, by go_num, by rw [HS2.out], by rw [HS2.out]; exact HP.out, HE.out.1, HE.out.2.1, HE.out.2.2⟩
          · have h7' : ((i : Int) % 7 == 0) = false := by simp; omega
            clear h7 k0 k1
            go_wp2
            go_roundg (150 - (i + 1))
            case measure => rw [HM.out]; have := HK.out.2.2.2; omega
            case rel => exact ⟨i + 1, T', A', c', ma', lb', rfl, by have := HK.out.2.2.2; omega, by have := HK.out.2.2.2; omega, by go_num, by rw [HS2.out], by rw [HS2.out]; exact HP.out, HE.out.1, HE.out.2.1, HE.out.2.2⟩
    · have hlen := runO_len L i (by rw [HLN.out]; exact hi)
      generalize runO L i = l at *
      have HIN := hid (show l.length ≤ 150 from by omega)
      have HMA := hid (show ma.length ≤ 150 from by have := HE.out.2.2; omega)
      have hlb : lb.length = ma.length := by have := congrArg List.length HE.out.1; simpa using this.symm
      have HLB := hid hlb
      obtain ⟨k0, k1, f0, f1⟩ := HP.out.cells
      clear hlb hlen f0 f1
      have hlt2 : (¬ (i : Int) < (n : Int)) ∨ ((i : Int) < (n : Int) ∧ ¬ (i : Int) < 150) := by omega
      clear hlt hi hi2
      rcases hlt2 with h1 | ⟨h1, h2⟩
      all_goals
        go_wp2_with (first | (at_builtin; refine wp_keepM _ _ rfl rfl wr HP.out rfl rfl rfl (by have := HMA.out; omega) ?_; intro v1 wa hPa) | (at_builtin; refine wp_keepL _ _ rfl rfl wa c1 hPa rfl rfl rfl (by have := HLB.out; have := HMA.out; omega) ?_; intro v2 wb hPb))
        have hee : (ma ++ [(T, l)]).map (·.2) = (lb ++ [((A1, c1), l)]).map (·.2) := by rw [List.map_append, List.map_append, HE.out.1]; rfl
        have hl5 := mem_one (a := (A1, c1)) HE.out.2.1 HIN.out
        have hml : (ma ++ [(T, l)]).length ≤ 151 := by rw [List.length_append, List.length_singleton]; have := HMA.out; omega
        have hll : (lb ++ [((A1, c1), l)]).length = (ma ++ [(T, l)]).length := by rw [List.length_append, List.length_append, HLB.out]; rfl
        have hpos : 0 < (ma ++ [(T, l)]).length := by rw [List.length_append, List.length_singleton]; omega
        have HP2 := hid hPb
        clear HE HMA HLB HP hPa hPb k0 k1 HIN HM HI HLN
        generalize ma ++ [(T, l)] = ma at *
        generalize lb ++ [((A1, c1), l)] = lb at *
        obtain ⟨g1, d1, rfl, -, -⟩ := HP2.out.maps.form hpos
        obtain ⟨g2, d2, rfl, -, -⟩ := HP2.out.lists.form (by omega)
        generalize hM : ma.length = M at *
        generalize hM2 : lb.length = M2 at *
        subst hll
        have HF := hid (And.intro hM (And.intro hM2 (And.intro hee (And.intro hl5 hml))))
        clear hM hM2 hee hl5 hml hpos
        try clear h1
        try clear h2
        go_loopg [9] M2 (fun m x wr => ∃ (j : Nat), m = M2 - j ∧ j ≤ M2 ∧ x = .int .i64 (j : Nat) ∧ PS w wr q T l A1 l (.slice (some ⟨g1, 0, none⟩) M2 d1) ma (.slice (some ⟨g2, 0, none⟩) M2 d2) lb)
        case atStart => exact ⟨0, rfl, Nat.zero_le _, rfl, HP2.out⟩
        case round =>
          obtain ⟨j, hm, hj, rfl, hP⟩ := hrel
          clear HP2
          have HP := hid hP
          have HM := hid hm
          clear hP hm
          have h0 : (0 : Int) ≤ (j : Int) := by omega
          have b1 : (j : Int) ≤ 151 := by have := HF.out.2.2.2.2; omega
          by_cases hlt : j < M2
          · have hlt' : (j : Int) < (M2 : Int) := by omega
            have hj1 : j < ma.length := by have := HF.out.1; omega
            have hj2 : j < lb.length := by have := HF.out.2.1; omega
            obtain ⟨⟨T1, s1⟩, hs1⟩ : ∃ e, ma[j]? = some e := ⟨_, List.getElem?_eq_getElem hj1⟩
            obtain ⟨⟨⟨A2, c2⟩, s2⟩, hs2⟩ : ∃ e, lb[j]? = some e := ⟨_, List.getElem?_eq_getElem hj2⟩
            have hs : s1 = s2 := by
              have h := congrArg (fun x => x[j]?) HF.out.2.2.1
              simp only [List.getElem?_map, hs1, hs2, Option.map_some, Option.some.injEq] at h
              exact h
            subst hs
            have HS5 := hid (show s1.length ≤ 150 from HF.out.2.2.2.1 _ (List.mem_of_getElem? hs2))
            obtain ⟨g, d, e, m0, m1, hm⟩ := HP.out.atM hs1
            obtain ⟨g', d', e', m2, hr⟩ := HP.out.atL hs2
            obtain rfl : g1 = g := by injection e with e; injection e with e; injection e
            obtain rfl : g2 = g' := by injection e' with e'; injection e' with e'; injection e'
            have HLT := hid hlt
            have HW := hid (fun (W : World) (hb : Below wr.heap.size wr W) => whole_any T1 A2 c2 s1 W (hm.below hb) (hr.below hb) (by have := HS5.out; omega))
            clear hlt hj hj1 hj2 hs1 hs2 e e' hm hr
            go_upto_region 24 with fail
            have hS : wr.drew.cell? ⟨g1, j * 2, none⟩ = some oF ∧ wr.drew.cell? ⟨g1, j * 2 + 1, none⟩ = some (.pointer T1.ad) ∧ wr.drew.cell? ⟨g2, j, none⟩ = some (.slice A2 s1.length c2) := ⟨keep4 (g_drew (g_refl (a := wr))) m0, keep4 (g_drew (g_refl (a := wr))) m1, keep4 (g_drew (g_refl (a := wr))) m2⟩
            go_region_held3 (fun w' => w'.cell? ⟨g1, j * 2, none⟩ = some oF ∧ w'.cell? ⟨g1, j * 2 + 1, none⟩ = some (.pointer T1.ad) ∧ w'.cell? ⟨g2, j, none⟩ = some (.slice A2 s1.length c2)) (first | with_reducible assumption | exact ⟨keep4 (by with_reducible assumption) hS.1, keep4 (by with_reducible assumption) hS.2.1, keep4 (by with_reducible assumption) hS.2.2⟩)
              (first | (go_at_call 15; (with_reducible refine Calls.mono (HW.out _ (g_drew g_refl)) ?_); rintro _ x1 ⟨rfl, hb1⟩))
            all_goals
              have HP3 := hid ((HP.out.below (g_drew (g_refl (a := wr)))).below hb1)
              go_wp2
              go_roundg (M2 - (j + 1))
              case measure => rw [HM.out]; have := HLT.out; omega
              case rel => exact ⟨j + 1, rfl, HLT.out, by go_num, HP3.out⟩
          · have hni : ¬ (j : Int) < (M2 : Int) := by omega
            clear hlt hj
            go_wp2_with fail
            refine (lives_any _).mono ?_
            rintro _ wz ⟨rfl, hb⟩
            go_wp2
            go_ret
            exact ⟨rfl, HP.out.bel.trans (hb.mono HP.out.bel.size)⟩
end Go.Proofs.Ythkceffnfhdjhaa
