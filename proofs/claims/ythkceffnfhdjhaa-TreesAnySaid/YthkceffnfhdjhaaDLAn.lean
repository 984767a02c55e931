/-
  TreesAny returns true: the walk.
-/
import Derived.Test.YthkceffnfhdjhaaDHf
import Derived.Deep.CutRange
import Derived.IntWalk
import Derived.Laws.StructEq
namespace Go.Proofs.Ythkceffnfhdjhaa
open Go.RowKit Go.Deep

theorem SIn.at_ {w W : World} {A : Option Addr} {L : List Int} (h : SIn w A L) {i : Nat} {k : Int} (hk : L[i]? = some k) (hb : Below w.heap.size w W) : ∃ g o, A = some ⟨g, o, none⟩ ∧ W.cell? ⟨g, o + i, none⟩ = some (.int .i16 k) ∧ -32768 ≤ k ∧ k ≤ 32767 := by
  obtain ⟨hi, e⟩ := List.getElem?_eq_some_iff.1 hk
  obtain ⟨g, o, rfl, hg, hc⟩ := h (fun e => by rw [e] at hi; exact absurd hi (Nat.not_lt_zero _))
  obtain ⟨h1, h2⟩ := hc i hi
  rw [e] at h1 h2
  exact ⟨g, o, rfl, ((bcell hb).1 g _ hg).trans h1, h2⟩
abbrev WA : World → World → Nat → Nat → Tr Int → Tr Int → List (Int × Int) → List (Int × Int) → Prop := fun w W q1 q2 T1 T2 la lb => B1 oF id w W q1 T1 la ∧ B1 oF id w W q2 T2 lb
theorem WA.below {w W W' : World} {q1 q2 : Nat} {T1 T2 : Tr Int} {la lb : List (Int × Int)} (h : WA w W q1 q2 T1 T2 la lb) (hb : Below W.heap.size W W') : WA w W' q1 q2 T1 T2 la lb := ⟨h.1.below hb, h.2.below hb⟩
/-- the two maps and the two rows of them -/
structure WR (w W : World) (q1 q2 : Nat) (T1 T2 : Tr Int) (A1 A2 : Option Addr) (l : List (Int × Int)) : Prop where
  ab : WA w W q1 q2 T1 T2 l l
  r1 : DI.RowP W A1 l
  r2 : DI.RowP W A2 l
theorem WR.below {w W W' : World} {q1 q2 : Nat} {T1 T2 : Tr Int} {A1 A2 : Option Addr} {l : List (Int × Int)} (h : WR w W q1 q2 T1 T2 A1 A2 l) (hb : Below W.heap.size W W') : WR w W' q1 q2 T1 T2 A1 A2 l := ⟨h.ab.below hb, h.r1.below hb, h.r2.below hb⟩
theorem keepF {a a' : World} {q g i j : Nat} {u v x y : Value} (h : Below a.heap.size a a') (k : (a.cell? ⟨q, 0, none⟩ = some u ∧ a.cell? ⟨q, 1, none⟩ = some v) ∧ (a.cell? ⟨g, i, none⟩ = some x ∧ a.cell? ⟨g, j, none⟩ = some y)) :
    (a'.cell? ⟨q, 0, none⟩ = some u ∧ a'.cell? ⟨q, 1, none⟩ = some v) ∧ (a'.cell? ⟨g, i, none⟩ = some x ∧ a'.cell? ⟨g, j, none⟩ = some y) := ⟨keepB h k.1, keep5 h k.2.1, keep5 h k.2.2⟩
theorem keepG {a a' : World} {q g1 g2 g3 i j : Nat} {u v x y : Value} (h : Below a.heap.size a a') (k : (a.cell? ⟨q, 0, none⟩ = some u ∧ a.cell? ⟨q, 1, none⟩ = some v) ∧ (a.cell? ⟨g1, i, none⟩ = some x ∧ a.cell? ⟨g1, j, none⟩ = some y) ∧ (a.cell? ⟨g2, i, none⟩ = some x ∧ a.cell? ⟨g2, j, none⟩ = some y) ∧ (a.cell? ⟨g3, i, none⟩ = some x ∧ a.cell? ⟨g3, j, none⟩ = some y)) :
    (a'.cell? ⟨q, 0, none⟩ = some u ∧ a'.cell? ⟨q, 1, none⟩ = some v) ∧ (a'.cell? ⟨g1, i, none⟩ = some x ∧ a'.cell? ⟨g1, j, none⟩ = some y) ∧ (a'.cell? ⟨g2, i, none⟩ = some x ∧ a'.cell? ⟨g2, j, none⟩ = some y) ∧ (a'.cell? ⟨g3, i, none⟩ = some x ∧ a'.cell? ⟨g3, j, none⟩ = some y) :=
  ⟨keepB h k.1, ⟨keep5 h k.2.1.1, keep5 h k.2.1.2⟩, ⟨keep5 h k.2.2.1.1, keep5 h k.2.2.1.2⟩, ⟨keep5 h k.2.2.2.1, keep5 h k.2.2.2.2⟩⟩
theorem ne_pair (k v : Int) (W : World) : (Go.binOp BinOp.neq 50 (.agg #[.int .i64 k, .int .i64 v]) (.agg #[.int .i64 k, .int .i64 v])).run Try.prog W = .ok (.bool false) W := by
  go_simp
theorem hv_16 {k : Int} (h1 : -32768 ≤ k) (h2 : k ≤ 32767) : Tr.hv k = k.tdiv 2 := by
  unfold Tr.hv wrap64
  rcases Int.le_total 0 k with h | h
  · rw [Int.tdiv_eq_ediv_of_nonneg h]; omega
  · have e : k.tdiv 2 = -((-k) / 2) := by
      rw [show k = -(-k) by omega, Int.neg_tdiv, Int.tdiv_eq_ediv_of_nonneg (by omega)]; simp
    rw [e]; omega
set_option maxRecDepth 20000 in
set_option maxHeartbeats 4000000 in
theorem any_walk (A : Option Addr) (c : Nat) (L : List Int) (by_ : Nat) (w : World) (hin : SIn w A L) (hby : by_ < 256) :
    Calls Try.prog 5 #[.slice A L.length c, .int .u8 (by_ : Nat)] w fun e w' => e = .returned (.bool true) ∧ Below w.heap.size w w' := by
  have HI := hid hin
  have HBY := hid hby
  clear hin
  have HN := hid (show ((min L.length 60 : Nat) : Int) = min (L.length : Int) 60 ∧ min L.length 60 ≤ 60 ∧ min L.length 60 ≤ L.length by omega)
  generalize hM : min L.length 60 = n at *
  generalize hl : L.length = m at *
  have HML := hid (And.intro hM hl)
  clear hM hl
  go_enter Try.func5, Try.ntmps5
  go_wp2_with fail
  refine (DI.new_l _ id w).mono ?_
  rintro _ w1 ⟨T1, rfl, hm1, hb1⟩
  go_wp2_with fail
  refine (DI.new_l _ id w1).mono ?_
  rintro _ w2 ⟨T2, rfl, hm2, hb2⟩
  have h1 : B1 oF id w ((w2.alloc (.cells #[oF, .pointer T1.ad] 26 (0, 0))).alloc (.cells #[oF, .pointer T2.ad] 26 (0, 0))) w2.heap.size T1 [] := (B1.new (hm1.below hb2) (g_trans hb1 hb2) oF).alloc _
  have h2 : B1 oF id w ((w2.alloc (.cells #[oF, .pointer T1.ad] 26 (0, 0))).alloc (.cells #[oF, .pointer T2.ad] 26 (0, 0))) (w2.heap.size + 1) T2 [] := by
    have := B1.new (hm2.below (g_alloc g_refl (.cells #[oF, .pointer T1.ad] 26 (0, 0)))) (g_trans (g_trans hb1 hb2) (g_alloc g_refl (.cells #[oF, .pointer T1.ad] 26 (0, 0)))) oF
    simpa using this
  have HS := hid (And.intro h1 h2)
  clear h1 h2 hm1 hm2 hb1 hb2
  go_upto_region 2 with fail
  generalize (w2.alloc (.cells #[oF, .pointer T1.ad] 26 (0, 0))).alloc (.cells #[oF, .pointer T2.ad] 26 (0, 0)) = w3 at *
  have hne : w2.heap.size ≠ w2.heap.size + 1 := by omega
  generalize w2.heap.size + 1 = q2 at *
  generalize w2.heap.size = q1 at *
  have HNE := hid hne
  clear hne
  go_cut [7] from 21 to 23 (fun u wx => u = .int .i64 (n : Nat) ∧ wx = w3)
  case first =>
    have hN1 := HN.out.1
    rcases (show (60 : Int) < (m : Int) ∨ (m : Int) ≤ 60 by omega) with hm6 | hm6
    · have e : (n : Int) = 60 := by omega
      have E := hid e
      clear hN1 e
      go_wp2
      go_meet
      exact ⟨by rw [E.out], rfl⟩
    · have e : (n : Int) = (m : Int) := by omega
      have E := hid e
      clear hN1 e
      go_wp2
      go_meet
      exact ⟨by rw [E.out], rfl⟩
  case rest =>
    obtain ⟨rfl, rfl⟩ := hcut
    go_wp2
    go_loopg [8] n (fun g x wr => ∃ (i : Nat) (Ta : Tr Int) (la : List (Int × Int)), g = n - i ∧ i ≤ n ∧ x = .int .i64 (i : Nat) ∧ WA w wr q1 q2 Ta T2 la [] ∧ Tr.Hlf la (fun x => ∃ j, j < i ∧ L[j]? = some x) ∧ la.length = i)
    case atStart => exact ⟨0, T1, [], rfl, Nat.zero_le _, rfl, HS.out, fun p => by simp, rfl⟩
    case round =>
      obtain ⟨i, Ta, la, hm, hi, rfl, hS, hH, hll⟩ := hrel
      have HM := hid hm
      clear HS hm
      have HS := hid hS
      have HH := hid (And.intro hH hll)
      clear hS hH hll
      have b0 : (0 : Int) ≤ (i : Int) := by omega
      have b1 : (i : Int) ≤ 60 := by have := HN.out.2.1; omega
      obtain ⟨k0, k1, f0, f1⟩ := HS.out.1.box.cells
      by_cases hlt : i < n
      · have HLT := hid hlt
        have hlt' : (i : Int) < (n : Int) := by omega
        have hiL : i < L.length := by have := HML.out.2; have := HN.out.2.2; omega
        have hlm : (i : Int) < (m : Int) := by have := HML.out.2; omega
        obtain ⟨k, hk⟩ : ∃ k, L[i]? = some k := ⟨_, List.getElem?_eq_getElem hiL⟩
        obtain ⟨g, o, rfl, t0, hk1, hk2⟩ := HI.out.at_ hk HS.out.1.bel
        have HK := hid hk
        clear hlt hi hiL hk
        by_cases hmem : ∃ p ∈ la, p.1 = k
        · obtain ⟨p, hp, he⟩ := hmem
          go_wp2_with fail
          refine (DI.get_hit iOrd Tr.ordI_f hp he HS.out.1.map (by have := HH.out.2; omega)).mono ?_
          rintro _ wg ⟨rfl, hb⟩
          have HS2 := hid (HS.out.below hb)
          clear HS hb k0 k1 f0 f1 t0 hp
          go_wp2_with fail
          refine (lives_any _).mono ?_
          rintro _ wz ⟨rfl, hb⟩
          go_wp2
          go_ret
          exact ⟨rfl, g_trans HS2.out.1.bel hb⟩
        · have hnot : ∀ p ∈ la, id p.1 ≠ id k := fun p hp e => hmem ⟨p, hp, e⟩
          have HNOT := hid hnot
          clear hmem hnot
          go_wp2_with fail
          refine (DI.get_miss iOrd Tr.ordI_f HNOT.out HS.out.1.map (by have := HH.out.2; omega)).mono ?_
          rintro _ wg ⟨rfl, hb⟩
          have HS2 := hid (HS.out.below hb)
          clear HS hb k0 k1 f0 f1 t0
          obtain ⟨k0, k1, f0, f1⟩ := HS2.out.1.box.cells
          go_wp2_with fail
          refine (DI.put_l iOrd Tr.ordI_f _ _ HS2.out.1.map (by have := HH.out.2; omega)).mono ?_
          rintro _ wn ⟨T5, rfl, hm, hb⟩
          rw [← hv_16 hk1 hk2] at hm
          have HS3 := hid (HS2.out.below hb)
          clear hb HS2 k0 k1 f0 f1
          obtain ⟨k0, k1, f0, f1⟩ := HS3.out.1.box.cells
          have HH2 := hid (And.intro (HH.out.1.put (S' := fun x => ∃ j, j < i + 1 ∧ L[j]? = some x) HS3.out.1.map.asc (k := k) (fun x => ⟨fun ⟨j, hj, e⟩ => by
              rcases (show j < i ∨ j = i by omega) with h | rfl
              · exact .inl ⟨j, h, e⟩
              · have := HK.out; rw [this] at e; injection e with e; exact .inr e.symm, fun h => by
              rcases h with ⟨j, hj, e⟩ | rfl
              · exact ⟨j, by omega, e⟩
              · exact ⟨i, Nat.lt_succ_self i, HK.out⟩⟩)) (Tr.put_len_new (v := Tr.hv k) HS3.out.1.map.asc HNOT.out))
          have HS4 := hid (show WA w _ q1 q2 T5 T2 _ [] from ⟨HS3.out.1.st hm, HS3.out.2.st_ne HS3.out.1 (Ne.symm HNE.out) T5⟩)
          clear hm HS3
          go_wp2
          go_roundg (n - (i + 1))
          case measure => rw [HM.out]; have := HLT.out; omega
          case rel => exact ⟨i + 1, T5, _, rfl, HLT.out, by go_num, HS4.out, HH2.out.1, by rw [HH2.out.2, HH.out.2]⟩
      · obtain rfl : i = n := by omega
        clear hlt hi HM
        have HLA := hid (And.intro HH.out.1 HH.out.2)
        clear HH
        go_wp2
        go_loopg [12] i (fun g x wr => ∃ (j : Nat) (Tb : Tr Int) (lb : List (Int × Int)), g = i - j ∧ j ≤ i ∧ x = .int .i64 (j : Nat) ∧ WA w wr q1 q2 Ta Tb la lb ∧ Tr.Hlf lb (fun x => ∃ t, t < j ∧ L[(t + by_) % i]? = some x) ∧ lb.length ≤ j)
        case atStart => exact ⟨0, T2, [], rfl, Nat.zero_le _, rfl, HS.out, fun p => by simp, Nat.le_refl _⟩
        case round =>
          obtain ⟨j, Tb, lb, hm, hi, rfl, hS, hH, hll⟩ := hrel
          have HM := hid hm
          clear HS hm k0 k1 f0 f1
          have HS := hid hS
          have HH := hid (And.intro hH hll)
          clear hS hH hll
          have c0 : (0 : Int) ≤ (j : Int) := by omega
          have c1 : (j : Int) ≤ 60 := by omega
          by_cases hlt : j < i
          · have HLT := hid hlt
            have hlt' : (j : Int) < (i : Int) := by omega
            have hmod : (j + by_) % i < i := Nat.mod_lt _ (by omega)
            obtain ⟨k, hk⟩ : ∃ k, L[(j + by_) % i]? = some k := ⟨_, List.getElem?_eq_getElem (by have := HML.out.2; have := HN.out.2.2; omega)⟩
            obtain ⟨g, o, rfl, t0, hk1, hk2⟩ := HI.out.at_ hk HS.out.1.bel
            have hmi : ((j : Int) + (by_ : Int)) % (i : Int) = (((j + by_) % i : Nat) : Int) := by rw [show (j : Int) + (by_ : Int) = ((j + by_ : Nat) : Int) by omega]; exact (Int.natCast_emod _ _).symm
            have hby1 : (by_ : Int) < 256 := by have := HBY.out; omega
            have hby0 : (0 : Int) ≤ (by_ : Int) := by omega
            have hi0 : ¬ (i : Int) = 0 := by omega
            have HK := hid (And.intro hk hmod)
            generalize hrr : (j + by_) % i = r at *
            have HRR := hid hrr
            clear hrr
            have hri : (r : Int) < (m : Int) := by have := HN.out.2.2; omega
            have hr0 : (0 : Int) ≤ (r : Int) := by omega
            obtain ⟨k0, k1, f0, f1⟩ := HS.out.2.box.cells
            clear hk hmod hlt
            go_upto_region 14 with fail
            go_wp2_with fail
            refine (DI.put_l iOrd Tr.ordI_f _ _ HS.out.2.map (by have := HH.out.2; omega)).mono ?_
            rintro _ wn ⟨T5, rfl, hm, hb⟩
            rw [← hv_16 hk1 hk2] at hm
            have HS3 := hid (HS.out.below hb)
            clear hb HS k0 k1 f0 f1 t0
            obtain ⟨k0, k1, f0, f1⟩ := HS3.out.2.box.cells
            have HH2 := hid (HH.out.1.put (S' := fun x => ∃ t, t < j + 1 ∧ L[(t + by_) % i]? = some x) HS3.out.2.map.asc (k := k) (fun x => ⟨fun ⟨t, ht, e⟩ => by
                rcases (show t < j ∨ t = j by omega) with h | rfl
                · exact .inl ⟨t, h, e⟩
                · rw [HRR.out, HK.out.1] at e; injection e with e; exact .inr e.symm, fun h => by
                rcases h with ⟨t, ht, e⟩ | rfl
                · exact ⟨t, by omega, e⟩
                · exact ⟨j, Nat.lt_succ_self j, by rw [HRR.out]; exact HK.out.1⟩⟩))
            have HL2 := hid (Tr.put_len (f := id) (k := k) (v := Tr.hv k) lb)
            have HS4 := hid (show WA w _ q1 q2 Ta T5 la _ from ⟨HS3.out.1.st_ne HS3.out.2 HNE.out T5, HS3.out.2.st hm⟩)
            clear hm HS3 hmi
            go_wp2
            go_roundg (i - (j + 1))
            case measure => rw [HM.out]; have := HLT.out; omega
            case rel => exact ⟨j + 1, T5, _, rfl, HLT.out, by go_num, HS4.out, HH2.out, by have := HL2.out; have := HH.out.2; omega⟩
          · obtain rfl : j = i := by omega
            have heq : lb = la := HH.out.1.ext HLA.out.1 HS.out.2.map.asc HS.out.1.map.asc (fun x => by
              rcases Nat.eq_zero_or_pos j with h | h
              · subst h; constructor <;> rintro ⟨t, ht, -⟩ <;> exact absurd ht (Nat.not_lt_zero _)
              · exact (turned h x).symm)
            subst heq
            have HLN := hid HLA.out.2
            have HALL := hid (fun (T : Tr Int) (W : World) (h : DI.MapL id W T lb) => DI.all_l 9 h (by have := HLN.out; omega))
            obtain ⟨k0, k1, -, -⟩ := HS.out.1.box.cells
            obtain ⟨j0, j1, -, -⟩ := HS.out.2.box.cells
            clear hlt hi HM HH HLA HI b0 b1
            go_upto_region 16 with fail
            go_cut [14, 15] from 67 to 70 (fun u u2 wx => ∃ B1 B2, u = .slice B1 j j ∧ u2 = .slice B2 j j ∧ WR w wx q1 q2 Ta Tb B1 B2 lb)
            case first =>
              have hS : (wr.drew.cell? ⟨q1, 0, none⟩ = some oF ∧ wr.drew.cell? ⟨q1, 1, none⟩ = some (.pointer Ta.ad)) ∧ (wr.drew.cell? ⟨q2, 0, none⟩ = some oF ∧ wr.drew.cell? ⟨q2, 1, none⟩ = some (.pointer Tb.ad)) := keepD (g_drew (g_refl (a := wr))) ⟨⟨k0, k1⟩, ⟨j0, j1⟩⟩
              have HMa := hid (fun (W : World) (hb : Below wr.heap.size wr W) => HS.out.1.map.below hb)
              have HMb := hid (fun (W : World) (hb : Below wr.heap.size wr W) => HS.out.2.map.below hb)
              have HX0 := hid (g_drew (g_refl (a := wr)))
              go_region_held3 (fun w' => (w'.cell? ⟨q1, 0, none⟩ = some oF ∧ w'.cell? ⟨q1, 1, none⟩ = some (.pointer Ta.ad)) ∧ (w'.cell? ⟨q2, 0, none⟩ = some oF ∧ w'.cell? ⟨q2, 1, none⟩ = some (.pointer Tb.ad))) (first | with_reducible assumption | with_reducible exact keepD (by with_reducible assumption) (by with_reducible assumption))
                (first | (go_at_call 26; (with_reducible refine Calls.mono (HALL.out Ta _ (HMa.out _ HX0.out)) ?_); rintro _ x1 ⟨B1, rfl, hp1, hb1⟩; have HX1 := hid (g_trans HX0.out hb1); have HP1 := hid hp1)
                       | (go_at_call 26; (with_reducible refine Calls.mono (HALL.out Tb _ (HMb.out _ HX1.out)) ?_); rintro _ x2 ⟨B2, rfl, hp2, hb2⟩; have HX2 := hid (g_trans HX1.out hb2); have HP2 := hid hp2; have HP3 := hid (HP1.out.below hb2)))
              all_goals
                go_wp2_with fail
                go_meet
                exact ⟨B1, B2, by rw [HLN.out], by rw [HLN.out], HS.out.below HX2.out, HP3.out, HP2.out⟩
            case rest =>
              obtain ⟨B1, B2, rfl, rfl, hP⟩ := hcut
              clear HS k0 k1 j0 j1 HALL
              have HS := hid hP
              clear hP
              go_wp2
              go_loopg [16] j (fun g x wr => ∃ (i : Nat), g = j - i ∧ i ≤ j ∧ x = .int .i64 (i : Nat) ∧ WR w wr q1 q2 Ta Tb B1 B2 lb)
              case atStart => exact ⟨0, rfl, Nat.zero_le _, rfl, HS.out⟩
              case round =>
                obtain ⟨i, hm, hi, rfl, hS⟩ := hrel
                have HM := hid hm
                clear HS hm
                have HS := hid hS
                clear hS
                have b0 : (0 : Int) ≤ (i : Int) := by omega
                have b1 : (i : Int) ≤ 60 := by omega
                by_cases hlt : i < j
                · have HLT := hid hlt
                  have hlt' : (i : Int) < (j : Int) := by omega
                  obtain ⟨⟨k, v⟩, hp⟩ : ∃ p, lb[i]? = some p := ⟨_, List.getElem?_eq_getElem (by rw [HLN.out]; exact hlt)⟩
                  have HPP := hid hp
                  obtain ⟨g1, rfl, t0, t1⟩ := rowP_at HS.out.r1 hp
                  obtain ⟨g2, rfl, s0, s1⟩ := rowP_at HS.out.r2 hp
                  obtain ⟨k0, k1, -, -⟩ := HS.out.ab.1.box.cells
                  have HDR := hid (fun (W : World) (h : DI.MapL id W Ta lb) => DI.drop_m iOrd Tr.ordI_f k h (by have := HLN.out; omega))
                  replace t0 : wr.cell? ⟨g1, i * 2, none⟩ = some (.int .i64 k) := t0
                  clear hp hlt hi t1 s0 s1
                  go_upto_region 22 with fail
                  go_cut [17] from 81 to 138 (fun u wx => ∃ gc Tc, u = .pointer (some ⟨gc, 0, none⟩) ∧ BX oF wx gc Tc ∧ DI.MapL id wx Tc (Tr.dropL id lb k) ∧ WR w wx q1 q2 Ta Tb (some ⟨g1, 0, none⟩) (some ⟨g2, 0, none⟩) lb)
                  case first =>
                    have hS : (wr.drew.cell? ⟨q1, 0, none⟩ = some oF ∧ wr.drew.cell? ⟨q1, 1, none⟩ = some (.pointer Ta.ad)) ∧ wr.drew.cell? ⟨g1, i * 2, none⟩ = some (.int .i64 k) := keepE (g_drew (g_refl (a := wr))) ⟨⟨k0, k1⟩, t0⟩
                    have HQ0 := hid (show q1 < wr.heap.size from HS.out.ab.1.box.lt)
                    have HQ := hid (show q1 < wr.drew.heap.size from HS.out.ab.1.box.lt)
                    have HB0 := hid (show g1 < wr.heap.size from World.block_lt_of_cell? _ _ t0)
                    have HB1 := hid (show g1 < wr.drew.heap.size from World.block_lt_of_cell? _ _ t0)
                    have HM1 := hid (HS.out.ab.1.map.below (g_drew (g_refl (a := wr))))
                    have HM2 := hid (fun o => HS.out.ab.1.map.below (g_drew (g_alloc (g_refl (a := wr)) o)))
                    go_region_held3 (fun w' => (w'.cell? ⟨q1, 0, none⟩ = some oF ∧ w'.cell? ⟨q1, 1, none⟩ = some (.pointer Ta.ad)) ∧ w'.cell? ⟨g1, i * 2, none⟩ = some (.int .i64 k)) (first | with_reducible assumption | with_reducible exact keepE (by with_reducible assumption) (by with_reducible assumption) | with_reducible exact keepE (g_alloc g_refl _) (by with_reducible assumption) | with_reducible exact keepES HQ0.out HB0.out (by with_reducible assumption) | with_reducible exact keepEA (Nat.lt_of_lt_of_le HQ.out hb1.size) (Nat.lt_of_lt_of_le HB1.out hb1.size) (by with_reducible assumption))
                      (first | (go_at_call 12; (with_reducible refine Calls.mono (HDR.out _ (by first | with_reducible exact HM1.out | with_reducible exact HM2.out _)) ?_); rintro _ x1 ⟨Tc, rfl, hmc, hb1⟩; have HMC := hid hmc; (first | (have hTW := two_drew hb1; obtain ⟨m0, m1, m2, m3⟩ := hTW.cells; replace hTW := hid hTW) | skip)))
                    all_goals
                      go_wp2_with fail
                      go_meet
                    all_goals
                      first
                        | exact ⟨_, Tc, rfl, bx_new x1 oF Tc, HMC.out.below (g_alloc g_refl _), HS.out.below (g_alloc (g_trans (g_drew g_refl) hb1) _)⟩
                        | exact ⟨_, Tc, rfl, hTW.out.set _ _, map_bod HMC.out (DI.set_two hTW.out oF (.pointer Tc.ad)) (by decide), HS.out.below (g_set (g_set (g_trans (g_drew (g_alloc g_refl _)) hb1) (Nat.le_refl _) _) (Nat.le_refl _) _)⟩
                  case rest =>
                    obtain ⟨gc, Tc, rfl, hbx, hmc, hP⟩ := hcut
                    clear HS t0 k0 k1 HDR
                    have HS := hid hP
                    have HBX := hid hbx
                    have HMC := hid hmc
                    clear hP hbx hmc
                    obtain ⟨d0, d1, -, -⟩ := HBX.out.cells
                    obtain ⟨gg, e1, t0, t1⟩ := rowP_at HS.out.r1 HPP.out
                    obtain rfl : g1 = gg := by injection e1 with e1; injection e1
                    have HPT := hid (fun (W : World) (h : DI.MapL id W Tc (Tr.dropL id lb k)) => DI.put_l iOrd Tr.ordI_f k v h (by have := HLN.out; have := Tr.drop_len (f := id) (k := k) lb; omega))
                    rw [Tr.drop_put HS.out.ab.1.map.asc HPP.out] at HPT
                    have HALL := hid (fun (T : Tr Int) (W : World) (h : DI.MapL id W T lb) => DI.all_l 9 h (by have := HLN.out; omega))
                    go_upto_region 23 with fail
                    go_cut [18] from 81 to 138 (fun u wx => ∃ B3, u = .slice B3 j j ∧ DI.RowP wx B3 lb ∧ BX oF wx gc Tc ∧ DI.MapL id wx Tc (Tr.dropL id lb k) ∧ WR w wx q1 q2 Ta Tb (some ⟨g1, 0, none⟩) (some ⟨g2, 0, none⟩) lb)
                    case first =>
                      have hS : (wc.drew.cell? ⟨gc, 0, none⟩ = some oF ∧ wc.drew.cell? ⟨gc, 1, none⟩ = some (.pointer Tc.ad)) ∧ (wc.drew.cell? ⟨g1, i * 2, none⟩ = some (.int .i64 k) ∧ wc.drew.cell? ⟨g1, i * 2 + 1, none⟩ = some (.int .i64 v)) := keepF (g_drew (g_refl (a := wc))) ⟨⟨d0, d1⟩, ⟨t0, t1⟩⟩
                      have HM1 := hid (HMC.out.below (g_drew (g_refl (a := wc))))
                      go_region_held3 (fun w' => (w'.cell? ⟨gc, 0, none⟩ = some oF ∧ w'.cell? ⟨gc, 1, none⟩ = some (.pointer Tc.ad)) ∧ (w'.cell? ⟨g1, i * 2, none⟩ = some (.int .i64 k) ∧ w'.cell? ⟨g1, i * 2 + 1, none⟩ = some (.int .i64 v))) (first | with_reducible assumption | with_reducible exact keepF (by with_reducible assumption) (by with_reducible assumption))
                        (first | (go_at_call 10; (with_reducible refine Calls.mono (HPT.out _ HM1.out) ?_); rintro _ x1 ⟨Td, rfl, hmd, hb1⟩; have HMD := hid hmd)
                               | (go_at_call 26; (with_reducible refine Calls.mono (HALL.out Td _ HMD.out) ?_); rintro _ x2 ⟨B3, rfl, hp3, hb2⟩; have HP3 := hid hp3))
                      all_goals
                        go_wp2_with fail
                        go_meet
                        exact ⟨B3, by rw [HLN.out], HP3.out, HBX.out.below (g_trans (g_trans (g_drew g_refl) hb1) hb2), HMC.out.below (g_trans (g_trans (g_drew g_refl) hb1) hb2), HS.out.below (g_trans (g_trans (g_drew g_refl) hb1) hb2)⟩
                    case rest =>
                      obtain ⟨B3, rfl, hp3, hbx, hmc, hP⟩ := hcut
                      clear HS t0 t1 d0 d1 HPT HALL HBX HMC
                      have HS := hid hP
                      have HBX := hid hbx
                      have HMC := hid hmc
                      obtain ⟨g3, rfl, r0, r1⟩ := rowP_at hp3 HPP.out
                      clear hP hbx hmc hp3
                      obtain ⟨d0, d1, -, -⟩ := HBX.out.cells
                      obtain ⟨gg, e1, t0, t1⟩ := rowP_at HS.out.r1 HPP.out
                      obtain rfl : g1 = gg := by injection e1 with e1; injection e1
                      obtain ⟨gg, e2, s0, s1⟩ := rowP_at HS.out.r2 HPP.out
                      obtain rfl : g2 = gg := by injection e2 with e2; injection e2
                      have HLE := hid (fun (W : World) (h : DI.MapL id W Tc (Tr.dropL id lb k)) => DI.len_l 9 h)
                      have hdl : (Tr.dropL id lb k).length = j - 1 := by have := Tr.drop_at_len HS.out.ab.1.map.asc HPP.out; have := HLN.out; omega
                      rw [hdl, show ((j - 1 : Nat) : Int) = (j : Int) - 1 by omega] at HLE
                      clear hdl
                      go_upto_region 24 with fail
                      go_cut [138] from 81 to 138 (fun u wx => u = .bool false ∧ WR w wx q1 q2 Ta Tb (some ⟨g1, 0, none⟩) (some ⟨g2, 0, none⟩) lb)
                      case first =>
                        have hS : (wc.drew.cell? ⟨gc, 0, none⟩ = some oF ∧ wc.drew.cell? ⟨gc, 1, none⟩ = some (.pointer Tc.ad)) ∧ (wc.drew.cell? ⟨g1, i * 2, none⟩ = some (.int .i64 k) ∧ wc.drew.cell? ⟨g1, i * 2 + 1, none⟩ = some (.int .i64 v)) ∧ (wc.drew.cell? ⟨g2, i * 2, none⟩ = some (.int .i64 k) ∧ wc.drew.cell? ⟨g2, i * 2 + 1, none⟩ = some (.int .i64 v)) ∧ (wc.drew.cell? ⟨g3, i * 2, none⟩ = some (.int .i64 k) ∧ wc.drew.cell? ⟨g3, i * 2 + 1, none⟩ = some (.int .i64 v)) := keepG (g_drew (g_refl (a := wc))) ⟨⟨d0, d1⟩, ⟨t0, t1⟩, ⟨s0, s1⟩, ⟨r0, r1⟩⟩
                        have HM1 := hid (HMC.out.below (g_drew (g_refl (a := wc))))
                        have hNE : ∀ W, (Go.binOp BinOp.neq 50 (.agg #[.int .i64 k, .int .i64 v]) (.agg #[.int .i64 k, .int .i64 v])).run Try.prog W = .ok (.bool false) W := fun W => ne_pair k v W
                        have hj1 : IntKind.i64.wrap ((j : Int) - 1) = (j : Int) - 1 := IntWalk.i64_in _ (by omega)
                        go_region_held3 (fun w' => (w'.cell? ⟨gc, 0, none⟩ = some oF ∧ w'.cell? ⟨gc, 1, none⟩ = some (.pointer Tc.ad)) ∧ (w'.cell? ⟨g1, i * 2, none⟩ = some (.int .i64 k) ∧ w'.cell? ⟨g1, i * 2 + 1, none⟩ = some (.int .i64 v)) ∧ (w'.cell? ⟨g2, i * 2, none⟩ = some (.int .i64 k) ∧ w'.cell? ⟨g2, i * 2 + 1, none⟩ = some (.int .i64 v)) ∧ (w'.cell? ⟨g3, i * 2, none⟩ = some (.int .i64 k) ∧ w'.cell? ⟨g3, i * 2 + 1, none⟩ = some (.int .i64 v))) (first | with_reducible assumption | with_reducible exact keepG (by with_reducible assumption) (by with_reducible assumption))
                          (first | (go_at_call 14; (with_reducible refine Calls.mono (HLE.out _ HM1.out) ?_); rintro _ x1 ⟨rfl, hb1⟩))
                        all_goals
                          go_wp2_with fail
                          go_meet
                          exact ⟨rfl, HS.out.below (g_trans (g_drew g_refl) hb1)⟩
                      case rest =>
                        obtain ⟨rfl, hP⟩ := hcut
                        clear HS t0 t1 s0 s1 r0 r1 d0 d1
                        have HS := hid hP
                        clear hP
                        go_wp2
                        go_roundg (j - (i + 1))
                        case measure => rw [HM.out]; have := HLT.out; omega
                        case rel => exact ⟨i + 1, rfl, HLT.out, by go_num, HS.out⟩
                · obtain rfl : i = j := by omega
                  clear hlt hi HM
                  go_wp2_with fail
                  refine (lives_any _).mono ?_
                  rintro _ x1 ⟨rfl, hb⟩
                  have HB1 := hid (g_trans HS.out.ab.1.bel hb)
                  clear hb
                  go_wp2_with fail
                  refine (half_any i (by omega) _).mono ?_
                  rintro _ x2 ⟨rfl, hb⟩
                  go_wp2
                  go_ret
                  exact ⟨rfl, g_trans HB1.out hb⟩
end Go.Proofs.Ythkceffnfhdjhaa
