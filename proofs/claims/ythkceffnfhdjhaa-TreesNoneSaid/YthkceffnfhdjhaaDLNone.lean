/-
  TreesNone returns true: the walk.
-/
import Derived.Test.YthkceffnfhdjhaaDNone
import Derived.Deep.DeepCutAuto
namespace Go.Proofs.Ythkceffnfhdjhaa
open Go.RowKit Go.Deep

set_option maxRecDepth 20000 in
set_option maxHeartbeats 4000000 in
theorem none_walk (A : Option Addr) (c : Nat) (L : List (Nat × Int)) (z0 z1 : Int) (w : World) (hin : OIn w A L) :
    Calls Try.prog 6 #[.slice A L.length c, .agg #[.int .i64 z0, .int .i64 z1]] w fun e w' => e = .returned (.bool true) ∧ Below w.heap.size w w' := by
  have HI := hid hin
  clear hin
  generalize hn : L.length = n at *
  have HLN := hid hn
  clear hn
  go_enter Try.func6, Try.ntmps6
  go_wp2_with fail
  refine (DI.new_nul_any _).mono ?_
  rintro _ w1 ⟨rfl, hb1⟩
  go_wp2_with fail
  refine (DI.new_any 28 _).mono ?_
  rintro _ w2 ⟨rfl, hb2⟩
  have HS := hid (ns_start (z0 := z0) (z1 := z1) hb1 hb2)
  clear hb1 hb2
  go_wp2
  generalize (w2.alloc (.cells #[.nilFunc, .pointer none] 26 (0, 0))).alloc (.cells #[oddF, .pointer none] 26 (0, 0)) = w3 at *
  generalize w2.heap.size + 1 = q2 at *
  generalize w2.heap.size = q1 at *
  generalize w.heap.size + 1 = q0 at *
  generalize hbq : w.heap.size = b at *
  have HB := hid hbq
  clear hbq
  go_loopg [8] 60 (fun g x wr => ∃ (i : Nat) (T : Tr Int), g = 60 - i ∧ i ≤ n ∧ i ≤ 60 ∧ x = .int .i64 (i : Nat) ∧ NS w wr b q0 q1 q2 z0 z1 i T)
  case atStart => exact ⟨0, .nil, rfl, Nat.zero_le _, Nat.zero_le _, rfl, HS.out⟩
  case round =>
    obtain ⟨i, T, hm, hi, hi2, rfl, hS⟩ := hrel
    have HM := hid hm
    have HIN := hid (And.intro hi hi2)
    clear HS
    have HS := hid hS
    have b0 : (0 : Int) ≤ (i : Int) := by omega
    have b1 : (i : Int) ≤ 60 := by omega
    clear hm hi hi2 hS
    obtain ⟨⟨zc0, zc1⟩, ⟨a0, a1⟩, ⟨c0, c1⟩, ⟨d0, d1⟩⟩ := HS.out.cells
    obtain ⟨⟨fa0, fa1⟩, ⟨fc0, fc1⟩, ⟨fd0, fd1⟩⟩ := HS.out.frozen
    by_cases hlt : i < n ∧ i < 60
    · obtain ⟨hlt, hlt2⟩ := hlt
      have hiL : i < L.length := by rw [HLN.out]; exact hlt
      obtain ⟨g, o, rfl, hg, hcells⟩ := HI.out (fun e => by rw [e] at hiL; exact absurd hiL (Nat.not_lt_zero _))
      obtain ⟨e0, e1, hk8, hk1, hk2⟩ := hcells i hiL
      clear hcells
      generalize L[i].1 = kd at *
      generalize L[i].2 = k at *
      have HG := hid (show ∀ W', Below w.heap.size w W' → W'.cell? ⟨g, o + i * 2, none⟩ = some (.int .u8 (kd : Nat)) ∧ W'.cell? ⟨g, o + i * 2 + 1, none⟩ = some (.int .i16 k) from fun W' hb => ⟨((bcell hb).1 g _ hg).trans e0, ((bcell hb).1 g _ hg).trans e1⟩)
      have HLT := hid (And.intro hlt hlt2)
      have hlt' : (i : Int) < (n : Int) := by omega
      have hlt2' : (i : Int) < 60 := by omega
      have hkd : kd % 3 = 2 ∨ ¬ kd % 3 = 2 := Classical.em _
      clear hiL hlt hlt2 e0 e1
      obtain ⟨e0, e1⟩ := HG.out _ HS.out.bel
      go_wp2_with fail
      refine (DI.put_nul _ _ _).mono ?_
      rintro _ y1 ⟨rfl, hb⟩
      clear e0 e1
      have HT := hid (HS.out.below hb)
      clear HS hb zc0 zc1 a0 a1 c0 c1 d0 d1 fa0 fa1 fc0 fc1 fd0 fd1
      have HS := hid HT.out
      clear HT
      obtain ⟨⟨zc0, zc1⟩, ⟨a0, a1⟩, ⟨c0, c1⟩, ⟨d0, d1⟩⟩ := HS.out.cells
      obtain ⟨⟨fa0, fa1⟩, ⟨fc0, fc1⟩, ⟨fd0, fd1⟩⟩ := HS.out.frozen
      go_wp2_with fail
      refine (DI.drop_nul _ _).mono ?_
      rintro _ y2 ⟨rfl, hb⟩
      have HT := hid (HS.out.below hb)
      clear HS hb zc0 zc1 a0 a1 c0 c1 d0 d1 fa0 fa1 fc0 fc1 fd0 fd1
      have HS := hid HT.out
      clear HT
      obtain ⟨⟨zc0, zc1⟩, ⟨a0, a1⟩, ⟨c0, c1⟩, ⟨d0, d1⟩⟩ := HS.out.cells
      obtain ⟨⟨fa0, fa1⟩, ⟨fc0, fc1⟩, ⟨fd0, fd1⟩⟩ := HS.out.frozen
      have HS2 := hid HS.out.st0
      have HC2 := hid HS2.out.cells
      obtain ⟨-, -, ⟨m0, m1⟩, -⟩ := HC2.out
      go_wp2_with fail
      refine (DI.put_nul _ _ _).mono ?_
      rintro _ y3 ⟨rfl, hb⟩
      have HT := hid (HS2.out.below hb)
      clear HS HS2 HC2 m0 m1 hb zc0 zc1 a0 a1 c0 c1 d0 d1 fa0 fa1 fc0 fc1 fd0 fd1
      have HS := hid HT.out
      clear HT
      obtain ⟨⟨zc0, zc1⟩, ⟨a0, a1⟩, ⟨c0, c1⟩, ⟨d0, d1⟩⟩ := HS.out.cells
      obtain ⟨⟨fa0, fa1⟩, ⟨fc0, fc1⟩, ⟨fd0, fd1⟩⟩ := HS.out.frozen
      have HS2 := hid HS.out.st1
      have HC2 := hid HS2.out.cells
      obtain ⟨-, -, -, ⟨m0, m1⟩⟩ := HC2.out
      go_wp2_with fail
      refine (wput _ _ HS2.out.map (by have := HIN.out.2; omega)).mono ?_
      rintro _ y4 ⟨T2, rfl, hm, hb⟩
      have HT := hid (HS2.out.below hb)
      clear HS HS2 HC2 m0 m1 hb zc0 zc1 a0 a1 c0 c1 d0 d1 fa0 fa1 fc0 fc1 fd0 fd1
      have HS := hid HT.out
      clear HT
      obtain ⟨⟨zc0, zc1⟩, ⟨a0, a1⟩, ⟨c0, c1⟩, ⟨d0, d1⟩⟩ := HS.out.cells
      obtain ⟨⟨fa0, fa1⟩, ⟨fc0, fc1⟩, ⟨fd0, fd1⟩⟩ := HS.out.frozen
      have HS2 := hid (HS.out.st2 hm)
      have HC2 := hid HS2.out.cells
      obtain ⟨-, -, -, ⟨m0, m1⟩⟩ := HC2.out
      obtain ⟨e0, e1⟩ := HG.out _ HS2.out.bel
      clear hm
      rcases hkd with hkd | hkd
      · have hkd' : ((kd : Int) % 3 == 2) = true := by simp; omega
        clear hkd
        go_wp2_with fail
        refine (wdrop _ HS2.out.map (by have := HIN.out.2; omega)).mono ?_
        rintro _ y5 ⟨T3, rfl, hm, hb⟩
        have HT := hid (HS2.out.below hb)
        clear HS HS2 HC2 m0 m1 hb zc0 zc1 a0 a1 c0 c1 d0 d1 fa0 fa1 fc0 fc1 fd0 fd1 e0 e1
        have HS := hid HT.out
        clear HT
        obtain ⟨⟨zc0, zc1⟩, ⟨a0, a1⟩, ⟨c0, c1⟩, ⟨d0, d1⟩⟩ := HS.out.cells
        obtain ⟨⟨fa0, fa1⟩, ⟨fc0, fc1⟩, ⟨fd0, fd1⟩⟩ := HS.out.frozen
        have HS2 := hid (HS.out.st2 hm)
        clear hm
        go_wp2
        go_roundg (60 - (i + 1))
        case measure => rw [HM.out]; have := HLT.out.2; omega
        case rel => exact ⟨i + 1, T3, rfl, HLT.out.1, HLT.out.2, by go_num, HS2.out⟩
      · have hkd' : ((kd : Int) % 3 == 2) = false := by simp; omega
        clear hkd
        go_wp2
        go_roundg (60 - (i + 1))
        case measure => rw [HM.out]; have := HLT.out.2; omega
        case rel => exact ⟨i + 1, T2, rfl, HLT.out.1, HLT.out.2, by go_num, HS2.out⟩
    · have hlt2 : (¬ (i : Int) < (n : Int)) ∨ ((i : Int) < (n : Int) ∧ ¬ (i : Int) < 60) := by omega
      clear hlt
      have hi60 : i ≤ 1000 := by have := HIN.out.2; omega
      have HW := hid hi60
      clear HIN HM HI HLN hi60
      rcases hlt2 with h1 | ⟨h1, h2⟩
      all_goals
        go_wp2_with fail
        refine (DI.get_nul_any _ _).mono ?_
        rintro _ y1 ⟨rfl, hb⟩
        have HT := hid (HS.out.below hb)
        clear HS hb zc0 zc1 a0 a1 c0 c1 d0 d1 fa0 fa1 fc0 fc1 fd0 fd1
        have HS := hid HT.out
        clear HT
        obtain ⟨⟨zc0, zc1⟩, ⟨a0, a1⟩, ⟨c0, c1⟩, ⟨d0, d1⟩⟩ := HS.out.cells
        obtain ⟨⟨fa0, fa1⟩, ⟨fc0, fc1⟩, ⟨fd0, fd1⟩⟩ := HS.out.frozen
        go_wp2_with fail
        refine (at_nul _ _).mono ?_
        rintro _ y2 ⟨rfl, hb⟩
        have HT := hid (HS.out.below hb)
        clear HS hb zc0 zc1 a0 a1 c0 c1 d0 d1 fa0 fa1 fc0 fc1 fd0 fd1
        have HS := hid HT.out
        clear HT
        obtain ⟨⟨zc0, zc1⟩, ⟨a0, a1⟩, ⟨c0, c1⟩, ⟨d0, d1⟩⟩ := HS.out.cells
        obtain ⟨⟨fa0, fa1⟩, ⟨fc0, fc1⟩, ⟨fd0, fd1⟩⟩ := HS.out.frozen
        have hb := g_alloc (g_refl (a := y2)) (.cells #[.int .i64 0, .int .i64 0] 50 (0, 0))
        have HT := hid (HS.out.below hb)
        clear HS hb zc0 zc1 a0 a1 c0 c1 d0 d1 fa0 fa1 fc0 fc1 fd0 fd1
        have HS := hid HT.out
        clear HT
        obtain ⟨⟨zc0, zc1⟩, ⟨a0, a1⟩, ⟨c0, c1⟩, ⟨d0, d1⟩⟩ := HS.out.cells
        obtain ⟨⟨fa0, fa1⟩, ⟨fc0, fc1⟩, ⟨fd0, fd1⟩⟩ := HS.out.frozen
        go_wp2_with fail
        refine (wget _ HS.out.map HW.out).mono ?_
        rintro _ y3 ⟨⟨v3, rfl⟩, hb⟩
        have HT := hid (HS.out.below hb)
        clear HS hb zc0 zc1 a0 a1 c0 c1 d0 d1 fa0 fa1 fc0 fc1 fd0 fd1
        have HS := hid HT.out
        clear HT
        obtain ⟨⟨zc0, zc1⟩, ⟨a0, a1⟩, ⟨c0, c1⟩, ⟨d0, d1⟩⟩ := HS.out.cells
        obtain ⟨⟨fa0, fa1⟩, ⟨fc0, fc1⟩, ⟨fd0, fd1⟩⟩ := HS.out.frozen
        go_wp2_with fail
        refine (wat _ HS.out.map HW.out).mono ?_
        rintro _ y4 ⟨⟨v4, rfl⟩, hb⟩
        have HT := hid (HS.out.below hb)
        clear HS hb zc0 zc1 a0 a1 c0 c1 d0 d1 fa0 fa1 fc0 fc1 fd0 fd1
        have HS := hid HT.out
        clear HT
        obtain ⟨⟨zc0, zc1⟩, ⟨a0, a1⟩, ⟨c0, c1⟩, ⟨d0, d1⟩⟩ := HS.out.cells
        obtain ⟨⟨fa0, fa1⟩, ⟨fc0, fc1⟩, ⟨fd0, fd1⟩⟩ := HS.out.frozen
        go_wp2_with fail
        refine (wrank _ HS.out.map HW.out).mono ?_
        rintro _ y5 ⟨⟨v5, rfl⟩, hb⟩
        have HT := hid (HS.out.below hb)
        clear HS hb zc0 zc1 a0 a1 c0 c1 d0 d1 fa0 fa1 fc0 fc1 fd0 fd1
        have HS := hid HT.out
        clear HT
        obtain ⟨⟨zc0, zc1⟩, ⟨a0, a1⟩, ⟨c0, c1⟩, ⟨d0, d1⟩⟩ := HS.out.cells
        obtain ⟨⟨fa0, fa1⟩, ⟨fc0, fc1⟩, ⟨fd0, fd1⟩⟩ := HS.out.frozen
        go_wp2_with fail
        refine (wrange _ _ HS.out.map HW.out).mono ?_
        rintro _ y6 ⟨⟨v6, rfl⟩, hb⟩
        have HT := hid (HS.out.below hb)
        clear HS hb zc0 zc1 a0 a1 c0 c1 d0 d1 fa0 fa1 fc0 fc1 fd0 fd1
        have HS := hid HT.out
        clear HT
        obtain ⟨⟨zc0, zc1⟩, ⟨a0, a1⟩, ⟨c0, c1⟩, ⟨d0, d1⟩⟩ := HS.out.cells
        obtain ⟨⟨fa0, fa1⟩, ⟨fc0, fc1⟩, ⟨fd0, fd1⟩⟩ := HS.out.frozen
        go_wp2_with fail
        refine (wbetween _ _ HS.out.map HW.out).mono ?_
        rintro _ y7 ⟨⟨v7, rfl⟩, hb⟩
        have HT := hid (HS.out.below hb)
        clear HS hb zc0 zc1 a0 a1 c0 c1 d0 d1 fa0 fa1 fc0 fc1 fd0 fd1
        have HS := hid HT.out
        clear HT
        obtain ⟨⟨zc0, zc1⟩, ⟨a0, a1⟩, ⟨c0, c1⟩, ⟨d0, d1⟩⟩ := HS.out.cells
        obtain ⟨⟨fa0, fa1⟩, ⟨fc0, fc1⟩, ⟨fd0, fd1⟩⟩ := HS.out.frozen
        go_wp2_with fail
        refine (wall HS.out.map HW.out).mono ?_
        rintro _ y8 ⟨⟨v8, rfl⟩, hb⟩
        have HT := hid (HS.out.below hb)
        clear HS hb zc0 zc1 a0 a1 c0 c1 d0 d1 fa0 fa1 fc0 fc1 fd0 fd1
        have HS := hid HT.out
        clear HT
        obtain ⟨⟨zc0, zc1⟩, ⟨a0, a1⟩, ⟨c0, c1⟩, ⟨d0, d1⟩⟩ := HS.out.cells
        obtain ⟨⟨fa0, fa1⟩, ⟨fc0, fc1⟩, ⟨fd0, fd1⟩⟩ := HS.out.frozen
        go_upto_region 20 with fail
        have hS : (y8.drew.cell? ⟨b, 0, none⟩ = some (.int .i64 z0) ∧ y8.drew.cell? ⟨b, 1, none⟩ = some (.int .i64 z1)) ∧ (y8.drew.cell? ⟨q0, 0, none⟩ = some .nilFunc ∧ y8.drew.cell? ⟨q0, 1, none⟩ = some (.pointer none)) ∧ (y8.drew.cell? ⟨q1, 0, none⟩ = some .nilFunc ∧ y8.drew.cell? ⟨q1, 1, none⟩ = some (.pointer none)) := keep6 (g_drew (g_refl (a := y8))) ⟨⟨zc0, zc1⟩, ⟨a0, a1⟩, ⟨c0, c1⟩⟩
        have HBL := hid (g_refl (a := y8))
        go_region_held3 (fun w' => (w'.cell? ⟨b, 0, none⟩ = some (.int .i64 z0) ∧ w'.cell? ⟨b, 1, none⟩ = some (.int .i64 z1)) ∧ (w'.cell? ⟨q0, 0, none⟩ = some .nilFunc ∧ w'.cell? ⟨q0, 1, none⟩ = some (.pointer none)) ∧ (w'.cell? ⟨q1, 0, none⟩ = some .nilFunc ∧ w'.cell? ⟨q1, 1, none⟩ = some (.pointer none))) (first | with_reducible assumption | exact keep6 (by with_reducible assumption) (by with_reducible assumption))
          (first | (go_at_call 14; (with_reducible refine Calls.mono (DI.len_nul _) ?_); rintro _ x1 ⟨rfl, hb1⟩; have HBL := hid (g_trans (by first | with_reducible exact HBL.out | with_reducible exact g_drew HBL.out) hb1)) | (go_at_call 29; (with_reducible refine Calls.mono (DI.depth_nul_any _) ?_); rintro _ x1 ⟨rfl, hb1⟩; have HBL := hid (g_trans (by first | with_reducible exact HBL.out | with_reducible exact g_drew HBL.out) hb1)) | (go_at_call 19; (with_reducible refine Calls.mono (DI.rank_nul_any _ _) ?_); rintro _ x1 ⟨rfl, hb1⟩; have HBL := hid (g_trans (by first | with_reducible exact HBL.out | with_reducible exact g_drew HBL.out) hb1)) | (go_at_call 26; (with_reducible refine Calls.mono (all0 _) ?_); rintro _ x1 ⟨⟨A7, rfl⟩, hb1⟩; have HBL := hid (g_trans (by first | with_reducible exact HBL.out | with_reducible exact g_drew HBL.out) hb1)) | (go_at_call 23; (with_reducible refine Calls.mono (range0 _ _ _) ?_); rintro _ x1 ⟨⟨A7, rfl⟩, hb1⟩; have HBL := hid (g_trans (by first | with_reducible exact HBL.out | with_reducible exact g_drew HBL.out) hb1)) | (go_at_call 25; (with_reducible refine Calls.mono (between0 _ _ _) ?_); rintro _ x1 ⟨⟨A7, rfl⟩, hb1⟩; have HBL := hid (g_trans (by first | with_reducible exact HBL.out | with_reducible exact g_drew HBL.out) hb1)))
        all_goals
          have HT := hid (HS.out.below HBL.out)
          clear HS hS zc0 zc1 a0 a1 c0 c1 d0 d1 fa0 fa1 fc0 fc1 fd0 fd1
          have HS := hid HT.out
          clear HT
          obtain ⟨⟨zc0, zc1⟩, ⟨a0, a1⟩, ⟨c0, c1⟩, ⟨d0, d1⟩⟩ := HS.out.cells
          obtain ⟨⟨fa0, fa1⟩, ⟨fc0, fc1⟩, ⟨fd0, fd1⟩⟩ := HS.out.frozen
          go_wp2_with fail
          refine (wdepth HS.out.map).mono ?_
          rintro _ y9 ⟨⟨v9, rfl⟩, hb⟩
          have HT := hid (HS.out.below hb)
          clear HS hb zc0 zc1 a0 a1 c0 c1 d0 d1 fa0 fa1 fc0 fc1 fd0 fd1
          have HS := hid HT.out
          clear HT
          go_wp2_with fail
          refine (lives_any _).mono ?_
          rintro _ y10 ⟨rfl, hb⟩
          go_wp2
          go_ret
          exact ⟨rfl, g_trans HS.out.bel hb⟩
end Go.Proofs.Ythkceffnfhdjhaa
