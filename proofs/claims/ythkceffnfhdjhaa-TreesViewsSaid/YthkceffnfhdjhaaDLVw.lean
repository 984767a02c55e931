/-
  TreesViews returns true: the walk.
-/
import Derived.Test.YthkceffnfhdjhaaDVw
import Derived.Deep.DeepCutAuto
import Derived.Deep.CutRange
import Derived.Deep.RegionWith
namespace Go.Proofs.Ythkceffnfhdjhaa
open Go.RowKit Go.Deep

theorem step_put2 {l : List (Int × Int)} {p : (Nat × Int) × Nat} (h : p.1.1 % 3 < 2) : stepO l p = Tr.putL id l p.1.2 p.2 := by unfold stepO; rw [if_pos h]
theorem step_drop2 {l : List (Int × Int)} {p : (Nat × Int) × Nat} (h : ¬ p.1.1 % 3 < 2) : stepO l p = Tr.dropL id l p.1.2 := by unfold stepO; rw [if_neg h]
set_option maxRecDepth 20000 in
set_option maxHeartbeats 4000000 in
theorem views_walk (A : Option Addr) (c : Nat) (L : List (Nat × Int)) (key z0 z1 : Int) (w : World) (hin : OIn w A L) (hk16 : -32768 ≤ key ∧ key ≤ 32767) :
    Calls Try.prog 4 #[.slice A L.length c, .int .i16 key, .agg #[.int .i64 z0, .int .i64 z1]] w fun e w' => e = .returned (.bool true) ∧ Below w.heap.size w w' := by
  have HI := hid hin
  clear hin
  generalize hn : L.length = n at *
  have HLN := hid hn
  have HK16 := hid hk16
  clear hn hk16
  go_enter Try.func4, Try.ntmps4
  go_wp2_with fail
  refine (DI.new_l _ id _).mono ?_
  rintro _ w1 ⟨T0, rfl, hm, hb⟩
  have HP := hid (vs_start (z0 := z0) (z1 := z1) hm hb)
  clear hm hb
  go_wp2
  generalize w1.alloc (.cells #[oF, .pointer T0.ad] 26 (0, 0)) = w2 at *
  generalize w1.heap.size = q at *
  generalize hbq : w.heap.size = b at *
  have HB := hid hbq
  clear hbq
  go_loopg [8, 9] 80 (fun m u x wr => ∃ (i : Nat) (T : Tr Int) (A1 : Option Addr) (c1 : Nat), m = 80 - i ∧ i ≤ n ∧ i ≤ 80 ∧ x = .int .i64 (i : Nat) ∧ u = .slice A1 (runO L i).length c1 ∧ VS w wr b q z0 z1 T (runO L i) A1 (runO L i))
  case atStart => exact ⟨0, T0, none, 0, rfl, Nat.zero_le _, Nat.zero_le _, rfl, by rw [runO_zero]; rfl, by rw [runO_zero]; exact HP.out⟩
  case round =>
    obtain ⟨i, T, A1, c1, hm, hi, hi2, rfl, rfl, hP⟩ := hrel
    have HM := hid hm
    clear HP hm
    have HP := hid hP
    clear hP
    by_cases hlt : i < n ∧ i < 80
    · obtain ⟨hlt, hlt2⟩ := hlt
      have hiL : i < L.length := by rw [HLN.out]; exact hlt
      obtain ⟨g, o, rfl, hg, hcells⟩ := HI.out (fun e => by rw [e] at hiL; exact absurd hiL (Nat.not_lt_zero _))
      obtain ⟨e0, e1, hk8, hk1, hk2⟩ := hcells i hiL
      clear hcells
      have hsucc := runO_succ hiL
      have hasc := runO_asc L i (Nat.le_of_lt hiL)
      have hlen := runO_len L i (Nat.le_of_lt hiL)
      have HS := hid hsucc
      generalize runO L i = l at *
      have hst : (L[i], i).1.1 % 3 < 2 ∨ ¬ (L[i], i).1.1 % 3 < 2 := Classical.em _
      generalize hpi : (L[i], i) = pi at *
      have hp1 : L[i].1 = pi.1.1 := by rw [← hpi]
      have hp2 : L[i].2 = pi.1.2 := by rw [← hpi]
      have hp3 : i = pi.2 := by rw [← hpi]
      have HK := hid (And.intro hasc (And.intro hlen (And.intro hlt hlt2)))
      have HPI := hid hp3
      rw [hp1] at e0 hk8
      rw [hp2] at e1 hk1 hk2
      have HG := hid (show ∀ W', Below w.heap.size w W' → W'.cell? ⟨g, o + i * 2, none⟩ = some (.int .u8 (pi.1.1 : Nat)) ∧ W'.cell? ⟨g, o + i * 2 + 1, none⟩ = some (.int .i16 pi.1.2) from fun W' hb => ⟨((bcell hb).1 g _ hg).trans e0, ((bcell hb).1 g _ hg).trans e1⟩)
      have hlt' : (i : Int) < (n : Int) := by omega
      have hlt2' : (i : Int) < 80 := by omega
      have h0 : (0 : Int) ≤ (i : Int) := by omega
      obtain ⟨-, ⟨k0, k1⟩, f0, f1⟩ := HP.out.cells
      clear hi hi2 hiL hasc hlen hlt hlt2 hp1 hp2 hp3 hpi hsucc e0 e1
      obtain ⟨e0, e1⟩ := HG.out _ HP.out.bel
      have HIN := hid (show l.length ≤ 80 from by have := HK.out.2.1; have := HK.out.2.2.2; omega)
      rcases hst with hst | hst
      · have hst' : ((pi.1.1 : Int) % 3 < 2) := by omega
        have HST := hid (step_put2 (l := l) hst)
        clear hst
        go_wp2_with fail
        refine (DI.put_l iOrd Tr.ordI_f _ _ HP.out.map (by have := HIN.out; omega)).mono ?_
        rintro _ wn ⟨T', rfl, hm, hb⟩
        have HP2 := hid (HP.out.below hb)
        clear k0 k1 f0 f1 e0 e1
        obtain ⟨-, ⟨k0, k1⟩, f0, f1⟩ := HP2.out.cells
        have HP3 := hid (HP2.out.st hm)
        clear HP2 hm hb
        go_wp2_with fail
        refine (rput_any A1 c1 l _ _ _ HP3.out.row (by have := HIN.out; omega)).mono ?_
        rintro _ wz ⟨A', c', rfl, hr, hb⟩
        have HP4 := hid ((HP3.out.below hb).row' hr)
        clear hb hr
        go_wp2
        go_roundg (80 - (i + 1))
        case measure => rw [HM.out]; have := HK.out.2.2.2; omega
        case rel => exact ⟨i + 1, T', A', c', rfl, by have := HK.out.2.2.1; omega, by have := HK.out.2.2.2; omega, by go_num, by rw [HS.out, HST.out, ← HPI.out, Tr.rp_put HK.out.1], by rw [HS.out, HST.out, ← HPI.out]; have h4 := HP4.out; rw [Tr.rp_put HK.out.1] at h4; exact h4⟩
      · have hst' : ¬ ((pi.1.1 : Int) % 3 < 2) := by omega
        have HST := hid (step_drop2 (l := l) hst)
        clear hst
        go_wp2_with fail
        refine (DI.drop_m iOrd Tr.ordI_f _ HP.out.map (by have := HIN.out; omega)).mono ?_
        rintro _ wn ⟨T', rfl, hm, hb⟩
        have HP2 := hid (HP.out.below hb)
        clear k0 k1 f0 f1 e0 e1
        obtain ⟨-, ⟨k0, k1⟩, f0, f1⟩ := HP2.out.cells
        have HP3 := hid (HP2.out.st hm)
        clear HP2 hm hb
        go_wp2_with fail
        refine (rdrop_any A1 c1 l _ _ HP3.out.row (by have := HIN.out; omega)).mono ?_
        rintro _ wz ⟨A', c', rfl, hr, hb⟩
        have HP4 := hid ((HP3.out.below hb).row' hr)
        clear hb hr
        go_wp2
        go_roundg (80 - (i + 1))
        case measure => rw [HM.out]; have := HK.out.2.2.2; omega
        case rel => exact ⟨i + 1, T', A', c', rfl, by have := HK.out.2.2.1; omega, by have := HK.out.2.2.2; omega, by go_num, by rw [HS.out, HST.out], by rw [HS.out, HST.out]; exact HP4.out⟩
    · have hlen := runO_len L i (by rw [HLN.out]; exact hi)
      generalize runO L i = l at *
      have HIN := hid (show l.length ≤ 80 from by omega)
      have hlt2 : (¬ (i : Int) < (n : Int)) ∨ ((i : Int) < (n : Int) ∧ ¬ (i : Int) < 80) := by omega
      obtain ⟨s, v, a, hF, hget, hrget⟩ := get_k l key HP.out.map.asc (by have := HIN.out; omega)
      have HF := hid hF
      have HGET := hid hget
      have HRGET := hid hrget
      clear hlt hi hi2 hlen hF hget hrget HM HI HLN
      obtain ⟨⟨y0, y1⟩, ⟨k0, k1⟩, -, -⟩ := HP.out.cells
      rcases hlt2 with h1 | ⟨h1, h2⟩
      all_goals
        have key1 := HK16.out.1
        have key2 := HK16.out.2
        go_wp2_with fail
        refine (HRGET.out _ _ _ HP.out.row).mono ?_
        rintro _ _ ⟨rfl, rfl⟩
        go_wp2_with fail
        refine (HGET.out _ _ HP.out.map).mono ?_
        rintro _ wg ⟨rfl, hb⟩
        have HP2 := hid (HP.out.below hb)
        clear HP hb y0 y1 k0 k1
        have HP := hid HP2.out
        clear HP2
        obtain ⟨⟨y0, y1⟩, ⟨k0, k1⟩, -, -⟩ := HP.out.cells
        go_upto_region 15 with fail
        go_cut [103] from 71 to 103 (fun u wx => u = .bool false ∧ VS w wx b q z0 z1 T l A1 l)
        case first =>
          rcases HF.out with ⟨rfl, j, rfl, hj⟩ | ⟨rfl, rfl, rfl⟩
          · obtain ⟨g, rfl, t0, t1⟩ := HP.out.row.at_ hj
            have hj0 : (0 : Int) ≤ (j : Int) := by omega
            have hj1 : (j : Int) < (l.length : Int) := by have := (List.getElem?_eq_some_iff.1 hj).1; omega
            go_wp2_with fail
            refine (DI.rank_l iOrd Tr.ordI_f _ HP.out.map (by have := HIN.out; omega)).mono ?_
            rintro _ wh ⟨rfl, hb⟩
            have HP2 := hid (HP.out.below hb)
            clear HP hb y0 y1 k0 k1 t0 t1
            have HP := hid HP2.out
            clear HP2
            go_wp2_with fail
            refine (rrank_any _ _ _ _ _ HP.out.row (by have := HIN.out; omega)).mono ?_
            rintro _ _ ⟨rfl, rfl⟩
            go_wp2
            go_meet
            exact ⟨rfl, HP.out⟩
          · go_wp2_with fail
            refine (DI.rank_l iOrd Tr.ordI_f _ HP.out.map (by have := HIN.out; omega)).mono ?_
            rintro _ wh ⟨rfl, hb⟩
            have HP2 := hid (HP.out.below hb)
            clear HP hb y0 y1 k0 k1
            have HP := hid HP2.out
            clear HP2
            go_wp2_with fail
            refine (rrank_any _ _ _ _ _ HP.out.row (by have := HIN.out; omega)).mono ?_
            rintro _ _ ⟨rfl, rfl⟩
            go_wp2
            go_meet
            exact ⟨rfl, HP.out⟩
        case rest =>
          obtain ⟨rfl, hP⟩ := hcut
          clear HP y0 y1 k0 k1
          have HP := hid hP
          clear hP
          obtain ⟨⟨y0, y1⟩, ⟨k0, k1⟩, -, -⟩ := HP.out.cells
          obtain ⟨x, y, e, hA, hAT⟩ := at_z l (Tr.rkL id l key : Nat) (by have := HIN.out; omega)
          have HATK := hid (show s = true → x = key ∧ y = v ∧ e = 0 from fun h => by
            rcases HF.out with ⟨-, j, rfl, hj⟩ | ⟨h2, -, -⟩
            · have hr := Tr.rk_at HP.out.map.asc hj
              have hl := (List.getElem?_eq_some_iff.1 hj).1
              rw [hr] at hA
              rcases hA with ⟨-, -, h1, h2⟩ | ⟨h1, -⟩
              · rw [show ((j : Nat) : Int).toNat = j by omega, hj] at h1
                injection h1 with h1
                injection h1 with h3 h4
                exact ⟨h3.symm, h4.symm, h2⟩
              · omega
            · rw [h] at h2; cases h2)
          have HAT := hid hAT
          have HRK := hid (fun W (h : DI.MapL id W T l) => DI.rank_l iOrd Tr.ordI_f key h (by have := HIN.out; omega))
          generalize (Tr.rkL id l key : Nat) = rk at *
          clear hA hAT
          go_upto_region 17 with fail
          go_cut [15, 16] from 104 to 111 (fun u u2 wx => u2 = .int .i64 e ∧ VS w wx b q z0 z1 T l A1 l ∧ ∃ g, u = .pointer (some ⟨g, 0, none⟩) ∧ wx.cell? ⟨g, 0, none⟩ = some (.int .i64 x) ∧ wx.cell? ⟨g, 1, none⟩ = some (.int .i64 y))
          case first =>
            have hS : wc.drew.cell? ⟨q, 0, none⟩ = some oF ∧ wc.drew.cell? ⟨q, 1, none⟩ = some (.pointer T.ad) := ⟨keep5 (g_drew (g_refl (a := wc))) k0, keep5 (g_drew (g_refl (a := wc))) k1⟩
            have HQ0 := hid (show q < wc.heap.size from HP.out.box.lt)
            have HQ := hid (show q < wc.drew.heap.size from HP.out.box.lt)
            have HM := hid (HP.out.map.below (g_drew (g_refl (a := wc))))
            have HM2 := hid (fun o => HP.out.map.below (g_drew (g_alloc (g_refl (a := wc)) o)))
            go_region_held3 (fun w' => w'.cell? ⟨q, 0, none⟩ = some oF ∧ w'.cell? ⟨q, 1, none⟩ = some (.pointer T.ad)) (first | with_reducible assumption | exact keepB (by with_reducible assumption) (by with_reducible assumption) | with_reducible exact keepB (g_alloc g_refl _) (by with_reducible assumption) | with_reducible exact keepS (Nat.lt_of_lt_of_le HQ.out hb1.size) (by with_reducible assumption) | with_reducible exact keepS HQ0.out (by with_reducible assumption) | with_reducible exact keepA (Nat.lt_of_lt_of_le (Nat.lt_of_lt_of_le HQ.out hb1.size) hb2.size) (by with_reducible assumption))
              (first | (go_at_call 19; (with_reducible refine Calls.mono (HRK.out _ (by first | with_reducible exact HM.out | with_reducible exact HM2.out _)) ?_); rintro _ x1 ⟨rfl, hb1⟩; (first | (have HM3 := hid (HM.out.below hb1)) | (have HM3 := hid ((HM2.out _).below hb1))); have HM4 := hid (fun o => HM3.out.below (g_alloc (g_refl (a := x1)) o)); (first | (have HTW := hid (two_drew hb1)) | skip)) | (go_at_call 21; (with_reducible refine Calls.mono (HAT.out _ _ (by first | with_reducible exact HM3.out | with_reducible exact HM4.out _)) ?_); rintro _ x2 ⟨rfl, hb2⟩; (first | (have hTW := HTW.out.below hb2; obtain ⟨m0, m1, m2, m3⟩ := hTW.cells; replace hTW := hid hTW) | (have hTW := two_new hb2; obtain ⟨m0, m1, m2, m3⟩ := hTW.cells; replace hTW := hid hTW) | skip)))
            all_goals
              go_wp2_with fail
              go_meet
            all_goals
              first
                | exact ⟨rfl, HP.out.below (g_alloc (g_trans (g_trans (g_drew g_refl) hb1) hb2) _), _, rfl, (two_alloc x2 _ _ _).cells.1, (two_alloc x2 _ _ _).cells.2.1⟩
                | exact ⟨rfl, HP.out.below (g_set (g_set (g_trans (g_alloc (g_trans (g_drew g_refl) hb1) _) hb2) (by exact hb1.size) _) (by exact hb1.size) _), _, rfl, (hTW.out.set _ _).cells.1, (hTW.out.set _ _).cells.2.1⟩
                | exact ⟨rfl, HP.out.below (g_set (g_set (g_trans (g_trans (g_drew (g_alloc g_refl _)) hb1) hb2) (Nat.le_refl _) _) (Nat.le_refl _) _), _, rfl, (hTW.out.set _ _).cells.1, (hTW.out.set _ _).cells.2.1⟩
                | (trace_state; sorry)
          case rest =>
            obtain ⟨rfl, hP, gp, rfl, p0, p1⟩ := hcut
            clear HP y0 y1 k0 k1 HRK HAT
            have HP := hid hP
            clear hP
            obtain ⟨⟨y0, y1⟩, ⟨k0, k1⟩, -, -⟩ := HP.out.cells
            go_upto_region 18 with fail
            go_cut [128] from 112 to 128 (fun u wx => u = .bool false ∧ wx = wc)
            case first =>
              rcases hs : s with _ | _
              · subst hs
                go_wp2
                go_meet
                exact ⟨rfl, rfl⟩
              · subst hs
                obtain ⟨rfl, rfl, rfl⟩ := HATK.out rfl
                go_wp2
                go_meet
                exact ⟨rfl, rfl⟩
            case rest =>
              obtain ⟨rfl, rfl⟩ := hcut
              clear p0 p1 y0 y1 k0 k1 HATK HF HGET HRGET HK16 key1 key2
              go_wp2
              go_loopg [17] 2 (fun m u wr => ∃ (i : Nat), m = 2 - i ∧ i ≤ 2 ∧ u = .int .i64 (i : Nat) ∧ VS w wr b q z0 z1 T l A1 l)
              case atStart => exact ⟨0, rfl, Nat.zero_le _, rfl, HP.out⟩
              case round =>
                obtain ⟨i2, hm, hi2, rfl, hP⟩ := hrel
                have HM := hid hm
                clear HP
                have HP := hid hP
                have b0 : (0 : Int) ≤ (i2 : Int) := by omega
                have b1 : (i2 : Int) ≤ 2 := by omega
                clear hm hP
                obtain ⟨⟨y0, y1⟩, ⟨k0, k1⟩, -, -⟩ := HP.out.cells
                by_cases hlt : i2 < 2
                · have hlt' : (i2 : Int) < 2 := by omega
                  have HLT := hid hlt
                  have hz := HP.out.z_at hlt
                  have HZ := hid (fun (W : World) (h : VS w W b q z0 z1 T l A1 l) => h.z_at hlt)
                  clear hlt hi2 y0 y1
                  generalize zAt z0 z1 i2 = z at *
                  obtain ⟨x, y, e, hA, hAT⟩ := at_z l z (by have := HIN.out; omega)
                  have HA := hid hA
                  have HAT := hid hAT
                  clear hA hAT
                  go_upto_region 23 with fail
                  go_cut [18, 19] from 129 to 190 (fun u u2 wx => u2 = .int .i64 e ∧ VS w wx b q z0 z1 T l A1 l ∧ ∃ g, u = .pointer (some ⟨g, 0, none⟩) ∧ wx.cell? ⟨g, 0, none⟩ = some (.int .i64 x) ∧ wx.cell? ⟨g, 1, none⟩ = some (.int .i64 y))
                  case first =>
                    have hS : (wr.drew.cell? ⟨q, 0, none⟩ = some oF ∧ wr.drew.cell? ⟨q, 1, none⟩ = some (.pointer T.ad)) ∧ wr.drew.cell? ⟨b, i2, none⟩ = some (.int .i64 z) := ⟨⟨keep5 (g_drew (g_refl (a := wr))) k0, keep5 (g_drew (g_refl (a := wr))) k1⟩, keep5 (g_drew (g_refl (a := wr))) hz⟩
                    have HQ0 := hid (show q < wr.heap.size from HP.out.box.lt)
                    have HQ := hid (show q < wr.drew.heap.size from HP.out.box.lt)
                    have HB0 := hid (show b < wr.heap.size from (Array.getElem?_eq_some_iff.1 HP.out.zs).1)
                    have HB1 := hid (show b < wr.drew.heap.size from (Array.getElem?_eq_some_iff.1 HP.out.zs).1)
                    have HM1 := hid (HP.out.map.below (g_drew (g_refl (a := wr))))
                    have HM2 := hid (fun o => HP.out.map.below (g_drew (g_alloc (g_refl (a := wr)) o)))
                    go_region_held3 (fun w' => (w'.cell? ⟨q, 0, none⟩ = some oF ∧ w'.cell? ⟨q, 1, none⟩ = some (.pointer T.ad)) ∧ w'.cell? ⟨b, i2, none⟩ = some (.int .i64 z)) (first | with_reducible assumption | with_reducible exact keepE (by with_reducible assumption) (by with_reducible assumption) | with_reducible exact keepE (g_alloc g_refl _) (by with_reducible assumption) | with_reducible exact keepES HQ0.out HB0.out (by with_reducible assumption) | with_reducible exact keepEA (Nat.lt_of_lt_of_le HQ.out hb1.size) (Nat.lt_of_lt_of_le HB1.out hb1.size) (by with_reducible assumption))
                      (first | (go_at_call 21; (with_reducible refine Calls.mono (HAT.out _ _ (by first | with_reducible exact HM1.out | with_reducible exact HM2.out _)) ?_); rintro _ x1 ⟨rfl, hb1⟩; (first | (have hTW := two_drew hb1; obtain ⟨m0, m1, m2, m3⟩ := hTW.cells; replace hTW := hid hTW) | skip)))
                    all_goals
                      go_wp2_with fail
                      go_meet
                    all_goals
                      first
                        | exact ⟨rfl, HP.out.below (g_alloc (g_trans (g_drew g_refl) hb1) _), _, rfl, (two_alloc x1 _ _ _).cells.1, (two_alloc x1 _ _ _).cells.2.1⟩
                        | exact ⟨rfl, HP.out.below (g_set (g_set (g_trans (g_drew (g_alloc g_refl _)) hb1) (Nat.le_refl _) _) (Nat.le_refl _) _), _, rfl, (hTW.out.set _ _).cells.1, (hTW.out.set _ _).cells.2.1⟩
                  case rest =>
                    obtain ⟨rfl, hP, gp, rfl, p0, p1⟩ := hcut
                    clear HP hz k0 k1 HAT
                    have HP := hid hP
                    clear hP
                    have hz := HZ.out _ HP.out
                    rcases HA.out with ⟨h0, h1l, hl, rfl⟩ | ⟨hout, rfl, rfl, rfl⟩
                    · obtain ⟨j, rfl⟩ : ∃ j : Nat, z = (j : Int) := ⟨z.toNat, by omega⟩
                      have hl' : l[j]? = some (x, y) := by simpa using hl
                      obtain ⟨g, rfl, t0, t1⟩ := HP.out.row.at_ hl'
                      have hnl : ¬ (j : Int) < 0 := by omega
                      have hnl2 : ¬ (l.length : Int) ≤ (j : Int) := by omega
                      have HJ := hid (show j < l.length by omega)
                      have HLL := hid HA.out
                      clear HA hl hl' HLL
                      go_wp2_with fail
                      go_quiet (fail)
                      have HD := hid (HP.out.below (g_drewN (g_refl (a := wc)) nq))
                      go_wp2
                      go_roundg (2 - (i2 + 1))
                      case measure => rw [HM.out]; have := HLT.out; omega
                      case rel => exact ⟨i2 + 1, rfl, HLT.out, by go_num, HD.out⟩
                    · clear HA
                      by_cases hneg : z < 0
                      · have hneg' : decide (z < 0) = true := by simp; omega
                        go_wp2_with fail
                        go_roundg (2 - (i2 + 1))
                        case measure => rw [HM.out]; have := HLT.out; omega
                        case rel => exact ⟨i2 + 1, rfl, HLT.out, by go_num, HP.out⟩
                      · have hpos : (l.length : Int) ≤ z := by omega
                        go_wp2_with fail
                        go_roundg (2 - (i2 + 1))
                        case measure => rw [HM.out]; have := HLT.out; omega
                        case rel => exact ⟨i2 + 1, rfl, HLT.out, by go_num, HP.out⟩
                · obtain rfl : i2 = 2 := by omega
                  clear HM
                  have HRK := hid (fun (k : Int) (W : World) (h : RowQ W A1 l) => rrank_any A1 c1 l k W h (by have := HIN.out; omega))
                  have HRG := hid (fun (W : World) (h : DI.MapL id W T l) => DI.range_l 9 z0 z1 h (by have := HIN.out; omega))
                  have HRR := hid (fun (W : World) (h : RowQ W A1 l) => rrange_any A1 c1 l z0 z1 W h (by have := HIN.out; omega))
                  have HBT := hid (fun (W : World) (h : DI.MapL id W T l) => DI.between_l iOrd Tr.ordI_f z0 z1 h (by have := HIN.out; omega))
                  have HRR2 := hid (fun (W : World) (h : RowQ W A1 l) => rrange_any A1 c1 l (Tr.rkL id l z0 : Nat) (Tr.rkL id l z1 : Nat) W h (by have := HIN.out; omega))
                  have HSM := hid (fun (B1 B2 : Option Addr) (c : Nat) (W : World) (h1 : DI.RowP W B1 (Tr.rng z0 z1 l)) (h2 : RowQ W B2 (Tr.rng z0 z1 l)) => same_any B1 B2 c _ W h1 h2 (by have := Tr.rng_len z0 z1 l; have := HIN.out; omega))
                  have HSM2 := hid (fun (B1 B2 : Option Addr) (c : Nat) (W : World) (h1 : DI.RowP W B1 (Tr.rng (Tr.rkL id l z0 : Nat) (Tr.rkL id l z1 : Nat) l)) (h2 : RowQ W B2 (Tr.rng (Tr.rkL id l z0 : Nat) (Tr.rkL id l z1 : Nat) l)) => same_any B1 B2 c _ W h1 h2 (by have := Tr.rng_len (Tr.rkL id l z0 : Nat) (Tr.rkL id l z1 : Nat) l; have := HIN.out; omega))
                  have HRK0 := hid (HRK.out z0)
                  have HRK1 := hid (HRK.out z1)
                  generalize Tr.rng z0 z1 l = l1 at *
                  generalize Tr.rng (Tr.rkL id l z0 : Nat) (Tr.rkL id l z1 : Nat) l = l2 at *
                  clear HRK
                  generalize Tr.rkL id l z0 = r0 at *
                  generalize Tr.rkL id l z1 = r1 at *
                  go_upto_region 29 with fail
                  go_cut [20, 21] from 191 to 198 (fun u u2 wx => u = .int .i64 (r0 : Nat) ∧ u2 = .int .i64 (r1 : Nat) ∧ VS w wx b q z0 z1 T l A1 l)
                  case first =>
                    have hS : wr.drew.cell? ⟨b, 0, none⟩ = some (.int .i64 z0) ∧ wr.drew.cell? ⟨b, 1, none⟩ = some (.int .i64 z1) := ⟨keep5 (g_drew (g_refl (a := wr))) y0, keep5 (g_drew (g_refl (a := wr))) y1⟩
                    have HR0 := hid (HP.out.row.below (g_drew (g_refl (a := wr))))
                    go_region_held3 (fun w' => w'.cell? ⟨b, 0, none⟩ = some (.int .i64 z0) ∧ w'.cell? ⟨b, 1, none⟩ = some (.int .i64 z1)) (with_reducible assumption)
                      (first | (go_at_call 20; (with_reducible refine Calls.mono (HRK0.out _ HR0.out) ?_); rintro _ _ ⟨rfl, rfl⟩) | (go_at_call 20; (with_reducible refine Calls.mono (HRK1.out _ HR0.out) ?_); rintro _ _ ⟨rfl, rfl⟩))
                    all_goals
                      go_wp2_with fail
                      go_meet
                      exact ⟨rfl, rfl, HP.out.below (g_drew (g_refl (a := wr)))⟩
                  case rest =>
                    obtain ⟨rfl, rfl, hP⟩ := hcut
                    clear HP y0 y1 k0 k1 HRK0 HRK1
                    have HP := hid hP
                    clear hP
                    go_upto_region 30 with fail
                    have hS : (wc.drew.cell? ⟨b, 0, none⟩ = some (.int .i64 z0) ∧ wc.drew.cell? ⟨b, 1, none⟩ = some (.int .i64 z1)) ∧ (wc.drew.cell? ⟨q, 0, none⟩ = some oF ∧ wc.drew.cell? ⟨q, 1, none⟩ = some (.pointer T.ad)) := keepD (g_drew (g_refl (a := wc))) ⟨HP.out.cells.1, HP.out.cells.2.1⟩
                    have HMB := hid (fun (W : World) (hb : Below wc.heap.size wc W) => HP.out.map.below hb)
                    have HRB := hid (fun (W : World) (hb : Below wc.heap.size wc W) => HP.out.row.below hb)
                    have HX0 := hid (g_drew (g_refl (a := wc)))
                    go_region_held3 (fun w' => (w'.cell? ⟨b, 0, none⟩ = some (.int .i64 z0) ∧ w'.cell? ⟨b, 1, none⟩ = some (.int .i64 z1)) ∧ (w'.cell? ⟨q, 0, none⟩ = some oF ∧ w'.cell? ⟨q, 1, none⟩ = some (.pointer T.ad))) (first | with_reducible assumption | with_reducible exact keepD (by with_reducible assumption) (by with_reducible assumption))
                      (first | (go_at_call 23; (with_reducible refine Calls.mono (HRG.out _ (HMB.out _ HX0.out)) ?_); rintro _ x1 ⟨B1, rfl, hp1, hb1⟩; have HX1 := hid (g_trans HX0.out hb1); have HP1 := hid hp1)
                              | (go_at_call 24; (with_reducible refine Calls.mono (HRR.out _ (HRB.out _ HX1.out)) ?_); rintro _ x2 ⟨B2, c2, rfl, hq2, hb2⟩; have HX2 := hid (g_trans HX1.out hb2); have HP2 := hid (HP1.out.below hb2); have HQ2 := hid hq2)
                              | (go_at_call 22; (with_reducible refine Calls.mono (HSM.out _ _ _ _ HP2.out HQ2.out) ?_); rintro _ x3 ⟨rfl, hb3⟩; have HX3 := hid (g_trans HX2.out hb3))
                              | (go_at_call 25; (with_reducible refine Calls.mono (HBT.out _ (HMB.out _ HX3.out)) ?_); rintro _ x4 ⟨B4, rfl, hp4, hb4⟩; have HX4 := hid (g_trans HX3.out hb4); have HP4 := hid hp4)
                              | (go_at_call 24; (with_reducible refine Calls.mono (HRR2.out _ (HRB.out _ HX4.out)) ?_); rintro _ x5 ⟨B5, c5, rfl, hq5, hb5⟩; have HX5 := hid (g_trans HX4.out hb5); have HP5 := hid (HP4.out.below hb5); have HQ5 := hid hq5)
                              | (go_at_call 22; (with_reducible refine Calls.mono (HSM2.out _ _ _ _ HP5.out HQ5.out) ?_); rintro _ x6 ⟨rfl, hb6⟩; have HX6 := hid (g_trans HX5.out hb6))
                              | (go_at_call 16; (with_reducible refine Calls.mono (lives_any _) ?_); rintro _ x7 ⟨rfl, hb7⟩; have HX7 := hid (g_trans HX6.out hb7)))
                    all_goals
                      go_wp2
                      go_ret
                      exact ⟨rfl, g_trans HP.out.bel HX7.out⟩
end Go.Proofs.Ythkceffnfhdjhaa
