/-
  TreesKnown returns true: the walk.
-/
import Derived.Test.YthkceffnfhdjhaaDKn
import Derived.Deep.DeepCutAuto
namespace Go.Proofs.Ythkceffnfhdjhaa
open Go.RowKit Go.Deep

abbrev pU (i : Nat) : Nat → Bool := fun j => decide (j < i)
abbrev pD (i : Nat) : Nat → Bool := fun j => decide (4096 - i ≤ j)
abbrev pL (m : Nat) : Nat → Bool := fun j => !(j % 2 == 0 && decide (j < 2 * m))

set_option maxRecDepth 20000 in
set_option maxHeartbeats 4000000 in
theorem known_walk (w : World) : Calls Try.prog 7 #[] w fun e w' => e = .returned (.bool true) ∧ Below w.heap.size w w' := by
  go_enter Try.func7, Try.ntmps7
  go_wp2_with fail
  refine (DI.new_l _ id w).mono ?_
  rintro _ w1 ⟨T1, rfl, hm1, hb1⟩
  go_wp2_with fail
  refine (DI.new_l _ id w1).mono ?_
  rintro _ w2 ⟨T2, rfl, hm2, hb2⟩
  have h1 : B1 oF id w ((w2.alloc (.cells #[oF, .pointer T1.ad] 26 (0, 0))).alloc (.cells #[oF, .pointer T2.ad] 26 (0, 0))) w2.heap.size T1 [] := (B1.new (hm1.below hb2) (g_trans hb1 hb2) oF).alloc _
  have h2 : B1 oF id w ((w2.alloc (.cells #[oF, .pointer T1.ad] 26 (0, 0))).alloc (.cells #[oF, .pointer T2.ad] 26 (0, 0))) (w2.heap.size + 1) T2 [] := by
    have := B1.new (hm2.below (g_alloc g_refl (.cells #[oF, .pointer T1.ad] 26 (0, 0)))) (g_trans (g_trans hb1 hb2) (g_alloc g_refl (.cells #[oF, .pointer T1.ad] 26 (0, 0)))) oF
    simpa using this
  have HS := hid (And.intro h1 h2)
  clear h1 h2 hm1 hm2 hb1 hb2
  go_wp2
  generalize (w2.alloc (.cells #[oF, .pointer T1.ad] 26 (0, 0))).alloc (.cells #[oF, .pointer T2.ad] 26 (0, 0)) = w3 at *
  have hne : w2.heap.size ≠ w2.heap.size + 1 := by omega
  generalize w2.heap.size + 1 = q2 at *
  generalize w2.heap.size = q1 at *
  have HNE := hid hne
  clear hne
  go_loopg [3] 4096 (fun m x wr => ∃ (i : Nat) (T1 T2 : Tr Int), m = 4096 - i ∧ i ≤ 4096 ∧ x = .int .i64 (i : Nat) ∧ B1 oF id w wr q1 T1 (Tr.cl (pU i) gU) ∧ B1 oF id w wr q2 T2 (Tr.cl (pD i) gD))
  case atStart => exact ⟨0, T1, T2, rfl, Nat.zero_le _, rfl, by rw [Tr.cl_nil (fun j _ => by simp [pU])]; exact HS.out.1, by rw [Tr.cl_nil (fun j hj => by simp [pD]; omega)]; exact HS.out.2⟩
  case round =>
    obtain ⟨i, T3, T4, hm, hi, rfl, h1, h2⟩ := hrel
    have HM := hid hm
    have HI := hid hi
    clear HS
    have HS := hid (And.intro h1 h2)
    have b0 : (0 : Int) ≤ (i : Int) := by omega
    have b1 : (i : Int) ≤ 4096 := by omega
    clear hm hi h1 h2
    by_cases hlt : i < 4096
    · have HLT := hid hlt
      have hlt' : (i : Int) < 4096 := by omega
      obtain ⟨k0, k1, f0, f1⟩ := HS.out.1.box.cells
      clear hlt
      go_wp2_with fail
      refine (DI.put_l iOrd Tr.ordI_f _ _ HS.out.1.map (by have := Tr.cl_len_le (P := pU i) (g := gU); omega)).mono ?_
      rintro _ wn ⟨T5, rfl, hm, hb⟩
      have e := Tr.cl_put (P := pU i) (Q := pU (i + 1)) (g := gU) HLT.out (by simp [pU]) (fun j _ => by simp [pU]; grind)
      rw [e] at hm
      clear e k0 k1 f0 f1
      have HS2 := hid (And.intro (HS.out.1.below hb) (HS.out.2.below hb))
      clear hb
      obtain ⟨k0, k1, f0, f1⟩ := HS2.out.1.box.cells
      have HS3 := hid (And.intro (HS2.out.1.st hm) (HS2.out.2.st_ne HS2.out.1 (Ne.symm HNE.out) T5))
      clear hm
      obtain ⟨j0, j1, g0, g1⟩ := HS3.out.2.box.cells
      go_wp2_with fail
      refine (DI.put_l iOrd Tr.ordI_f _ _ HS3.out.2.map (by have := Tr.cl_len_le (P := pD i) (g := gD); omega)).mono ?_
      rintro _ wm ⟨T6, rfl, hm, hb⟩
      have e := Tr.cl_put (P := pD i) (Q := pD (i + 1)) (g := gD) (k := 4095 - i) (by omega) (by simp [pD]; have := HLT.out; omega) (fun j _ => by rw [Bool.eq_iff_iff]; simp [pD]; have := HLT.out; omega)
      rw [show ((4095 - i : Nat) : Int) = 4095 - (i : Int) by have := HLT.out; omega, show gD (4095 - i) = (i : Int) by simp only [gD]; have := HLT.out; omega] at e
      rw [e] at hm
      clear e k0 k1 f0 f1 j0 j1 g0 g1
      have HS4 := hid (And.intro (HS3.out.1.below hb) (HS3.out.2.below hb))
      clear hb
      obtain ⟨j0, j1, g0, g1⟩ := HS4.out.2.box.cells
      have HS5 := hid (And.intro (HS4.out.1.st_ne HS4.out.2 HNE.out T6) (HS4.out.2.st hm))
      clear hm
      go_wp2
      go_roundg (4096 - (i + 1))
      case measure => rw [HM.out]; have := HLT.out; omega
      case rel => exact ⟨i + 1, T5, T6, rfl, HLT.out, by go_num, HS5.out.1, HS5.out.2⟩
    · obtain rfl : i = 4096 := by have := HI.out; omega
      have h1 := HS.out.1
      have h2 := HS.out.2
      rw [Tr.cl_congr (P := pU 4096) (Q := fun _ => true) (fun j hj => by simp [pU]; omega)] at h1
      rw [Tr.cl_congr (P := pD 4096) (Q := fun _ => true) (fun j hj => by simp [pD])] at h2
      clear HS HI HM hlt
      have HS := hid (And.intro h1 h2)
      have HR := hid kn_lens
      have HR2 := hid kn_gets
      have hd1 : T3.dp ≤ 16 := Tr.bal_16 h1.map.bal (by rw [h1.map.sz, Tr.cl_all_len]; decide)
      have hd2 : T4.dp ≤ 16 := Tr.bal_16 h2.map.bal (by rw [h2.map.sz, Tr.cl_all_len]; decide)
      clear h1 h2
      have HDEP := hid (fun (T : Tr Int) (l : List (Int × Int)) (W : World) (h : DI.MapL id W T l) => DI.depth_l 9 h)
      have HD1 := hid (fun W (h : DI.MapL id W T3 (Tr.cl (fun _ => true) gU)) => HDEP.out T3 _ W h)
      have HD2 := hid (fun W (h : DI.MapL id W T4 (Tr.cl (fun _ => true) gD)) => HDEP.out T4 _ W h)
      generalize hdd1 : T3.dp = d1 at *
      generalize hdd2 : T4.dp = d2 at *
      clear hdd1 hdd2
      have i1 : decide ((16 : Int) < (d1 : Int)) = false := by simp; omega
      have i2 : decide ((16 : Int) < (d2 : Int)) = false := by simp; omega
      have i3 : ¬ (16 : Int) < (d1 : Int) := by omega
      have i4 : ¬ (16 : Int) < (d2 : Int) := by omega
      obtain ⟨k0, k1, -, -⟩ := HS.out.1.box.cells
      obtain ⟨j0, j1, -, -⟩ := HS.out.2.box.cells
      go_wp2_with fail
      refine (HR.out.1 _ _ HS.out.1.map).mono ?_
      rintro _ x1 ⟨rfl, hb⟩
      have HT := hid (And.intro (HS.out.1.below hb) (HS.out.2.below hb))
      clear HS hb k0 k1 j0 j1
      have HS := hid HT.out
      clear HT
      obtain ⟨k0, k1, -, -⟩ := HS.out.1.box.cells
      obtain ⟨j0, j1, -, -⟩ := HS.out.2.box.cells
      go_wp2_with fail
      refine (HR.out.2.1 _ _ HS.out.2.map).mono ?_
      rintro _ x2 ⟨rfl, hb⟩
      have HT := hid (And.intro (HS.out.1.below hb) (HS.out.2.below hb))
      clear HS hb k0 k1 j0 j1
      have HS := hid HT.out
      clear HT
      obtain ⟨k0, k1, -, -⟩ := HS.out.1.box.cells
      obtain ⟨j0, j1, -, -⟩ := HS.out.2.box.cells
      go_wp2_with fail
      refine (HD1.out _ HS.out.1.map).mono ?_
      rintro _ x3 ⟨rfl, hb⟩
      have HT := hid (And.intro (HS.out.1.below hb) (HS.out.2.below hb))
      clear HS hb k0 k1 j0 j1
      have HS := hid HT.out
      clear HT
      obtain ⟨k0, k1, -, -⟩ := HS.out.1.box.cells
      obtain ⟨j0, j1, -, -⟩ := HS.out.2.box.cells
      go_wp2_with fail
      refine (HD2.out _ HS.out.2.map).mono ?_
      rintro _ x4 ⟨rfl, hb⟩
      have HT := hid (And.intro (HS.out.1.below hb) (HS.out.2.below hb))
      clear HS hb k0 k1 j0 j1
      have HS := hid HT.out
      clear HT
      obtain ⟨k0, k1, -, -⟩ := HS.out.1.box.cells
      obtain ⟨j0, j1, -, -⟩ := HS.out.2.box.cells
      go_wp2_with fail
      refine (HR.out.2.2.1 _).mono ?_
      rintro _ x4 ⟨rfl, rfl⟩
      clear i1 i2 i3 i4 hd1 hd2 HD1 HD2
      have h3 : B1 oF id w (x4.alloc (.cells #[oF, .pointer T3.ad] 26 (0, 0))) x4.heap.size T3 (Tr.cl (fun _ => true) gU) := B1.new HS.out.1.map HS.out.1.bel oF
      have hn1 : q1 < x4.heap.size := HS.out.1.box.lt
      have hn2 : q2 < x4.heap.size := HS.out.2.box.lt
      have HT := hid (And.intro (HS.out.1.alloc (.cells #[oF, .pointer T3.ad] 26 (0, 0))) (And.intro (HS.out.2.alloc (.cells #[oF, .pointer T3.ad] 26 (0, 0))) h3))
      clear HS h3
      go_wp2
      clear k0 k1 j0 j1
      generalize x4.alloc (.cells #[oF, .pointer T3.ad] 26 (0, 0)) = x5 at *
      generalize x4.heap.size = q3 at *
      have HNQ := hid (And.intro hn1 hn2)
      clear hn1 hn2
      go_loopg [5] 4096 (fun g x wr => ∃ (i m : Nat) (T7 : Tr Int), i = 2 * m ∧ g = 4096 - i ∧ i ≤ 4096 ∧ x = .int .i64 (i : Nat) ∧ B1 oF id w wr q1 T3 (Tr.cl (fun _ => true) gU) ∧ B1 oF id w wr q2 T4 (Tr.cl (fun _ => true) gD) ∧ B1 oF id w wr q3 T7 (Tr.cl (pL m) gU))
      case atStart => exact ⟨0, 0, T3, rfl, rfl, Nat.zero_le _, rfl, HT.out.1, HT.out.2.1, by rw [Tr.cl_congr (P := pL 0) (Q := fun _ => true) (fun j _ => by simp [pL])]; exact HT.out.2.2⟩
      case round =>
        obtain ⟨i, m, T7, him, hm, hi, rfl, h1, h2, h3⟩ := hrel
        have HM := hid hm
        have HI := hid (And.intro hi him)
        clear HT
        have HS := hid (And.intro h1 (And.intro h2 h3))
        have b0 : (0 : Int) ≤ (i : Int) := by omega
        have b1 : (i : Int) ≤ 4096 := by omega
        clear hm hi h1 h2 h3
        by_cases hlt : i < 4096
        · have HLT := hid hlt
          have hlt' : (i : Int) < 4096 := by omega
          obtain ⟨y0, y1, f0, f1⟩ := HS.out.2.2.box.cells
          clear hlt him
          go_wp2_with fail
          refine (DI.drop_m iOrd Tr.ordI_f _ HS.out.2.2.map (by have := Tr.cl_len_le (P := pL m) (g := gU); omega)).mono ?_
          rintro _ wn ⟨T8, rfl, hm, hb⟩
          have e := Tr.cl_drop (P := pL m) (Q := pL (m + 1)) (g := gU) (k := i) (fun j _ => by have := HI.out.2; rw [Bool.eq_iff_iff]; simp [pL]; omega)
          rw [e] at hm
          clear e y0 y1 f0 f1
          have HS2 := hid (And.intro (HS.out.1.below hb) (And.intro (HS.out.2.1.below hb) (HS.out.2.2.below hb)))
          clear hb HS
          obtain ⟨y0, y1, f0, f1⟩ := HS2.out.2.2.box.cells
          have HS3 := hid (And.intro (HS2.out.1.st_ne HS2.out.2.2 (by have := HNQ.out.1; omega) T8) (And.intro (HS2.out.2.1.st_ne HS2.out.2.2 (by have := HNQ.out.2; omega) T8) (HS2.out.2.2.st hm)))
          clear hm
          go_wp2
          go_roundg (4096 - (i + 2))
          case measure => rw [HM.out]; have := HLT.out; omega
          case rel => exact ⟨i + 2, m + 1, T8, by have := HI.out.2; omega, rfl, by have := HLT.out; have := HI.out.2; omega, by go_num, HS3.out.1, HS3.out.2.1, HS3.out.2.2⟩
        · have hi4 : i = 4096 := by have := HI.out.1; omega
          obtain rfl : m = 2048 := by omega
          subst hi4
          have h3 := HS.out.2.2
          rw [Tr.cl_congr (P := pL 2048) (Q := fun j => j % 2 == 1) (fun j hj => by rw [Bool.eq_iff_iff]; simp [pL]; omega)] at h3
          have HT := hid (And.intro HS.out.1 (And.intro HS.out.2.1 h3))
          clear HS HI HM hlt h3 b0 b1 him
          go_wp2
          go_loopg [6] 4096 (fun g x wr => ∃ (i : Nat), g = 4096 - i ∧ i ≤ 4096 ∧ x = .int .i64 (i : Nat) ∧ B1 oF id w wr q1 T3 (Tr.cl (fun _ => true) gU) ∧ B1 oF id w wr q2 T4 (Tr.cl (fun _ => true) gD) ∧ B1 oF id w wr q3 T7 (Tr.cl (fun j => j % 2 == 1) gU))
          case atStart => exact ⟨0, rfl, Nat.zero_le _, rfl, HT.out⟩
          case round =>
            obtain ⟨i, hm, hi, rfl, hS⟩ := hrel
            have HM := hid hm
            have HI := hid hi
            clear HT
            have HS := hid hS
            have b0 : (0 : Int) ≤ (i : Int) := by omega
            have b1 : (i : Int) ≤ 4096 := by omega
            obtain ⟨k0, k1, -, -⟩ := HS.out.1.box.cells
            obtain ⟨j0, j1, -, -⟩ := HS.out.2.1.box.cells
            obtain ⟨y0, y1, -, -⟩ := HS.out.2.2.box.cells
            clear hm hi hS
            by_cases hlt : i < 4096
            · have HLT := hid hlt
              have hlt' : (i : Int) < 4096 := by omega
              have HG := hid (kn_gets i hlt)
              have hpar : i % 2 = 1 ∨ i % 2 = 0 := by omega
              clear hlt
              go_wp2_with fail
              refine (HG.out.1 _ _ HS.out.1.map).mono ?_
              rintro _ x6 ⟨rfl, hb⟩
              have HT := hid (And.intro (HS.out.1.below hb) (And.intro (HS.out.2.1.below hb) (HS.out.2.2.below hb)))
              clear HS hb k0 k1 j0 j1 y0 y1
              have HS := hid HT.out
              clear HT
              obtain ⟨k0, k1, -, -⟩ := HS.out.1.box.cells
              obtain ⟨j0, j1, -, -⟩ := HS.out.2.1.box.cells
              obtain ⟨y0, y1, -, -⟩ := HS.out.2.2.box.cells
              obtain ⟨p0, p1⟩ := DI.box2p x6 (.int .i64 (i : Nat)) (.int .i64 (-(i : Int))) 50
              have hb := g_alloc (g_refl (a := x6)) (.cells #[.int .i64 (i : Nat), .int .i64 (-(i : Int))] 50 (0, 0))
              have HT := hid (And.intro (HS.out.1.below hb) (And.intro (HS.out.2.1.below hb) (HS.out.2.2.below hb)))
              clear HS hb k0 k1 j0 j1 y0 y1
              have HS := hid HT.out
              clear HT
              obtain ⟨k0, k1, -, -⟩ := HS.out.1.box.cells
              obtain ⟨j0, j1, -, -⟩ := HS.out.2.1.box.cells
              obtain ⟨y0, y1, -, -⟩ := HS.out.2.2.box.cells
              go_wp2_with fail
              refine (HG.out.2.1 _ _ HS.out.2.1.map).mono ?_
              rintro _ x7 ⟨rfl, hb⟩
              have HT := hid (And.intro (HS.out.1.below hb) (And.intro (HS.out.2.1.below hb) (HS.out.2.2.below hb)))
              replace p0 := keep5 hb p0
              replace p1 := keep5 hb p1
              clear HS hb k0 k1 j0 j1 y0 y1
              have HS := hid HT.out
              clear HT
              obtain ⟨k0, k1, -, -⟩ := HS.out.1.box.cells
              obtain ⟨j0, j1, -, -⟩ := HS.out.2.1.box.cells
              obtain ⟨y0, y1, -, -⟩ := HS.out.2.2.box.cells
              rcases hpar with hpar | hpar
              · have hpi : ((i : Int) % 2 == 1) = true := by simp; omega
                go_wp2_with fail
                refine (HG.out.2.2.1 hpar _ _ HS.out.2.2.map).mono ?_
                rintro _ x8 ⟨rfl, hb⟩
                have HT := hid (And.intro (HS.out.1.below hb) (And.intro (HS.out.2.1.below hb) (HS.out.2.2.below hb)))
                replace p0 := keep5 hb p0
                replace p1 := keep5 hb p1
                clear HS hb k0 k1 j0 j1 y0 y1
                have HS := hid HT.out
                clear HT
                obtain ⟨k0, k1, -, -⟩ := HS.out.1.box.cells
                obtain ⟨j0, j1, -, -⟩ := HS.out.2.1.box.cells
                obtain ⟨y0, y1, -, -⟩ := HS.out.2.2.box.cells
                clear hpar
                go_wp2_with fail
                refine (HG.out.2.2.2.2 _ _ HS.out.2.2.map).mono ?_
                rintro _ x9 ⟨rfl, hb⟩
                have HT := hid (And.intro (HS.out.1.below hb) (And.intro (HS.out.2.1.below hb) (HS.out.2.2.below hb)))
                replace p0 := keep5 hb p0
                replace p1 := keep5 hb p1
                clear HS hb k0 k1 j0 j1 y0 y1
                have HS := hid HT.out
                clear HT
                obtain ⟨k0, k1, -, -⟩ := HS.out.1.box.cells
                obtain ⟨j0, j1, -, -⟩ := HS.out.2.1.box.cells
                obtain ⟨y0, y1, -, -⟩ := HS.out.2.2.box.cells
                go_wp2
                go_roundg (4096 - (i + 1))
                case measure => rw [HM.out]; have := HLT.out; omega
                case rel => exact ⟨i + 1, rfl, HLT.out, by go_num, HS.out⟩
              · have hpi : ((i : Int) % 2 == 1) = false := by simp; omega
                go_wp2_with fail
                refine (HG.out.2.2.2.1 hpar _ _ HS.out.2.2.map).mono ?_
                rintro _ x8 ⟨rfl, hb⟩
                have HT := hid (And.intro (HS.out.1.below hb) (And.intro (HS.out.2.1.below hb) (HS.out.2.2.below hb)))
                replace p0 := keep5 hb p0
                replace p1 := keep5 hb p1
                clear HS hb k0 k1 j0 j1 y0 y1
                have HS := hid HT.out
                clear HT
                obtain ⟨k0, k1, -, -⟩ := HS.out.1.box.cells
                obtain ⟨j0, j1, -, -⟩ := HS.out.2.1.box.cells
                obtain ⟨y0, y1, -, -⟩ := HS.out.2.2.box.cells
                clear hpar
                go_wp2_with fail
                refine (HG.out.2.2.2.2 _ _ HS.out.2.2.map).mono ?_
                rintro _ x9 ⟨rfl, hb⟩
                have HT := hid (And.intro (HS.out.1.below hb) (And.intro (HS.out.2.1.below hb) (HS.out.2.2.below hb)))
                replace p0 := keep5 hb p0
                replace p1 := keep5 hb p1
                clear HS hb k0 k1 j0 j1 y0 y1
                have HS := hid HT.out
                clear HT
                obtain ⟨k0, k1, -, -⟩ := HS.out.1.box.cells
                obtain ⟨j0, j1, -, -⟩ := HS.out.2.1.box.cells
                obtain ⟨y0, y1, -, -⟩ := HS.out.2.2.box.cells
                go_wp2
                go_roundg (4096 - (i + 1))
                case measure => rw [HM.out]; have := HLT.out; omega
                case rel => exact ⟨i + 1, rfl, HLT.out, by go_num, HS.out⟩
            · have hlt' : ¬ (i : Int) < 4096 := by omega
              clear hlt b0 b1
              have HD7 := hid (fun W (h : DI.MapL id W T7 (Tr.cl (fun j => j % 2 == 1) gU)) => HDEP.out T7 _ W h)
              have hd7 : T7.dp ≤ 16 := Tr.bal_16 HS.out.2.2.map.bal (by rw [HS.out.2.2.map.sz, Tr.cl_odd_len]; decide)
              have hl7 : Tr.lst T7.dp ≤ 2048 := by have := Tr.bal_lst HS.out.2.2.map.bal; rw [HS.out.2.2.map.sz, Tr.cl_odd_len] at this; exact this
              have HLS := hid (fun W => least_any T7.dp W (by omega))
              generalize T7.dp = d7 at *
              generalize Tr.lst d7 = s7 at *
              have i1 : decide ((d7 : Int) ≤ 16) = true := by simp; omega
              have i2 : (d7 : Int) ≤ 16 := by omega
              have i3 : decide ((s7 : Int) ≤ 2048) = true := by simp; omega
              have i4 : (s7 : Int) ≤ 2048 := by omega
              clear hd7 hl7
              go_wp2_with fail
              refine (HR.out.2.2.2.1 _ _ HS.out.2.2.map).mono ?_
              rintro _ x6 ⟨rfl, hb⟩
              have HT := hid (And.intro (HS.out.1.below hb) (And.intro (HS.out.2.1.below hb) (HS.out.2.2.below hb)))
              clear HS hb k0 k1 j0 j1 y0 y1
              have HS := hid HT.out
              clear HT
              obtain ⟨k0, k1, -, -⟩ := HS.out.1.box.cells
              obtain ⟨j0, j1, -, -⟩ := HS.out.2.1.box.cells
              obtain ⟨y0, y1, -, -⟩ := HS.out.2.2.box.cells
              go_wp2_with fail
              refine (HD7.out _ HS.out.2.2.map).mono ?_
              rintro _ x7 ⟨rfl, hb⟩
              have HT := hid (And.intro (HS.out.1.below hb) (And.intro (HS.out.2.1.below hb) (HS.out.2.2.below hb)))
              clear HS hb k0 k1 j0 j1 y0 y1
              have HS := hid HT.out
              clear HT
              obtain ⟨k0, k1, -, -⟩ := HS.out.1.box.cells
              obtain ⟨j0, j1, -, -⟩ := HS.out.2.1.box.cells
              obtain ⟨y0, y1, -, -⟩ := HS.out.2.2.box.cells
              go_wp2_with fail
              refine (HD7.out _ HS.out.2.2.map).mono ?_
              rintro _ x8 ⟨rfl, hb⟩
              have HT := hid (And.intro (HS.out.1.below hb) (And.intro (HS.out.2.1.below hb) (HS.out.2.2.below hb)))
              clear HS hb k0 k1 j0 j1 y0 y1
              have HS := hid HT.out
              clear HT
              obtain ⟨k0, k1, -, -⟩ := HS.out.1.box.cells
              obtain ⟨j0, j1, -, -⟩ := HS.out.2.1.box.cells
              obtain ⟨y0, y1, -, -⟩ := HS.out.2.2.box.cells
              go_wp2_with fail
              refine (HLS.out _).mono ?_
              rintro _ x8 ⟨rfl, rfl⟩
              go_wp2_with fail
              refine (HR.out.1 _ _ HS.out.1.map).mono ?_
              rintro _ x9 ⟨rfl, hb⟩
              have HT := hid (And.intro (HS.out.1.below hb) (And.intro (HS.out.2.1.below hb) (HS.out.2.2.below hb)))
              clear HS hb k0 k1 j0 j1 y0 y1
              have HS := hid HT.out
              clear HT
              obtain ⟨k0, k1, -, -⟩ := HS.out.1.box.cells
              obtain ⟨j0, j1, -, -⟩ := HS.out.2.1.box.cells
              obtain ⟨y0, y1, -, -⟩ := HS.out.2.2.box.cells
              go_wp2_with fail
              refine (HR.out.2.2.2.2 _ _ HS.out.1.map).mono ?_
              rintro _ x10 ⟨⟨A, rfl⟩, hb⟩
              have HT := hid (And.intro (HS.out.1.below hb) (And.intro (HS.out.2.1.below hb) (HS.out.2.2.below hb)))
              clear HS hb k0 k1 j0 j1 y0 y1
              have HS := hid HT.out
              clear HT
              obtain ⟨k0, k1, -, -⟩ := HS.out.1.box.cells
              obtain ⟨j0, j1, -, -⟩ := HS.out.2.1.box.cells
              obtain ⟨y0, y1, -, -⟩ := HS.out.2.2.box.cells
              go_wp2_with fail
              refine (lives_any _).mono ?_
              rintro _ x11 ⟨rfl, hb⟩
              go_wp2
              go_ret
              exact ⟨rfl, g_trans HS.out.1.bel hb⟩
end Go.Proofs.Ythkceffnfhdjhaa
