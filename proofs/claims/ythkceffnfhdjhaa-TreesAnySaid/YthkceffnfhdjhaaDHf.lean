/-
  THE CONTRACTS of the law's halves and half.
-/
import Derived.Test.YthkceffnfhdjhaaDAn
import Derived.Deep.DeepCutAuto
namespace Go.Proofs.Ythkceffnfhdjhaa
open Go.RowKit Go.Deep

theorem halves_any (x y : Int) (w : World) : Calls Try.prog 48 #[.int .i64 x, .int .i64 y] w fun e w' => e = .returned (.int .i64 (Tr.ordI (Tr.hv x) (Tr.hv y))) ∧ w' = w := by
  go_enter Try.func48, Try.ntmps48
  go_wp2_with fail
  refine (order_any _ _ _).mono ?_
  rintro _ _ ⟨rfl, rfl⟩
  go_wp2
  go_ret
  exact ⟨rfl, rfl⟩
abbrev hF : Value := .func (.func 48) #[] #[]
theorem hOrd : DI.Ord 48 (fun x y => Tr.ordI (Tr.hv x) (Tr.hv y)) := ⟨fun x y W => by kernel_rfl, halves_any⟩
theorem hOrd_f : Tr.OrdF (fun x y => Tr.ordI (Tr.hv x) (Tr.hv y)) Tr.hv := fun a b => Tr.ordI_f (Tr.hv a) (Tr.hv b)
theorem hv_two (j : Nat) (h : j ≤ 60) : Tr.hv (2 * (j : Int)) = j ∧ Tr.hv (2 * (j : Int) + 1) = j := by
  have e1 : (2 * (j : Int)).tdiv 2 = j := by rw [Int.tdiv_eq_ediv_of_nonneg (by omega)]; omega
  have e2 : (2 * (j : Int) + 1).tdiv 2 = j := by rw [Int.tdiv_eq_ediv_of_nonneg (by omega)]; omega
  unfold Tr.hv
  rw [e1, e2]
  unfold wrap64; omega
set_option maxRecDepth 20000 in
set_option maxHeartbeats 1000000 in
theorem half_any (n : Nat) (hn : n ≤ 60) (w : World) : Calls Try.prog 27 #[.int .i64 (n : Nat)] w fun e w' => e = .returned (.bool true) ∧ Below w.heap.size w w' := by
  have HN := hid hn
  go_enter Try.func27, Try.ntmps27
  go_wp2_with fail
  refine (DI.new_l 48 Tr.hv _).mono ?_
  rintro _ w1 ⟨T0, rfl, hm, hb⟩
  have HP := hid (B1.new hm hb hF)
  clear hm hb hn
  go_wp2
  generalize w1.alloc (.cells #[hF, .pointer T0.ad] 26 (0, 0)) = w2 at *
  generalize w1.heap.size = q at *
  go_loopg [4] n (fun m x wr => ∃ (i : Nat) (T : Tr Int), m = n - i ∧ i ≤ n ∧ x = .int .i64 (i : Nat) ∧ B1 hF Tr.hv w wr q T (hl i))
  case atStart => exact ⟨0, T0, rfl, Nat.zero_le _, rfl, HP.out⟩
  case round =>
    obtain ⟨i, T, hm, hi, rfl, hP⟩ := hrel
    have HM := hid hm
    clear HP hm
    have HP := hid hP
    clear hP
    obtain ⟨k0, k1, f0, f1⟩ := HP.out.box.cells
    have b0 : (0 : Int) ≤ (i : Int) := by omega
    have b1 : (i : Int) ≤ 60 := by have := HN.out; omega
    have HLEN := hid (show (hl i).length ≤ 60 from by rw [hl_len]; omega)
    by_cases hlt : i < n
    · have HLT := hid hlt
      have hlt' : (i : Int) < (n : Int) := by omega
      clear hlt hi
      go_wp2_with fail
      refine (DI.put_l hOrd hOrd_f _ _ HP.out.map (by have := HLEN.out; omega)).mono ?_
      rintro _ wn ⟨T', rfl, hm, hb⟩
      rw [hl_put hv_two i (by have := HN.out; have := HLT.out; omega)] at hm
      have HP2 := hid (HP.out.below hb)
      clear k0 k1 f0 f1 hb HP
      obtain ⟨k0, k1, f0, f1⟩ := HP2.out.box.cells
      have HP3 := hid (HP2.out.st hm)
      clear HP2 hm
      go_wp2
      go_roundg (n - (i + 1))
      case measure => rw [HM.out]; have := HLT.out; omega
      case rel => exact ⟨i + 1, T', rfl, HLT.out, by go_num, HP3.out⟩
    · obtain rfl : i = n := by omega
      clear hlt hi HM
      go_wp2_with fail
      refine (DI.all_l 48 HP.out.map (by have := HLEN.out; omega)).mono ?_
      rintro _ wn ⟨A, rfl, hr, hb⟩
      have HR := hid hr
      have HB := hid (g_trans HP.out.bel hb)
      clear hr hb k0 k1 f0 f1 HP
      have HAT := hid (fun (j : Nat) (h : j < (i + 1) / 2) => hl_at h)
      have hll := hl_len i
      generalize hl i = l at *
      generalize hLn : l.length = N at *
      go_wp2
      go_loopg [6] N (fun m x wr => ∃ (j : Nat), m = N - j ∧ j ≤ N ∧ x = .int .i64 (j : Nat) ∧ DI.RowP wr A l ∧ Below w.heap.size w wr)
      case atStart => exact ⟨0, rfl, Nat.zero_le _, rfl, HR.out, HB.out⟩
      case round =>
        obtain ⟨j, hm, hj, rfl, hr, hb⟩ := hrel
        have HM := hid hm
        clear HR HB hm
        have HR := hid hr
        have HB := hid hb
        clear hr hb
        have c0 : (0 : Int) ≤ (j : Int) := by omega
        have c1 : (j : Int) ≤ 60 := by have := HN.out; omega
        by_cases hlt : j < N
        · have HLT := hid hlt
          have hlt' : (j : Int) < (N : Int) := by omega
          obtain ⟨g, rfl, t0, t1⟩ := rowP_at HR.out (HAT.out j (by omega))
          have hji : j < (i + 1) / 2 := by omega
          have hji2 : (j : Int) < ((i : Int) + 1) / 2 := by omega
          rcases Nat.lt_or_ge (i - 1) (2 * j + 1) with hA | hA
          · have hA' : (i : Int) - 1 < 2 * (j : Int) + 1 := by omega
            rw [show ((min (2 * j + 1) (i - 1) : Nat) : Int) = (i : Int) - 1 by omega] at t1
            clear hA hll hji hj hlt HAT
            go_wp2
            go_roundg (N - (j + 1))
            case measure => rw [HM.out]; have := HLT.out; omega
            case rel => exact ⟨j + 1, rfl, HLT.out, by go_num, HR.out, HB.out⟩
          · have hA' : 2 * (j : Int) + 1 ≤ (i : Int) - 1 := by omega
            rw [show ((min (2 * j + 1) (i - 1) : Nat) : Int) = 2 * (j : Int) + 1 by omega] at t1
            clear hA hll hji hj hlt HAT
            go_wp2
            go_roundg (N - (j + 1))
            case measure => rw [HM.out]; have := HLT.out; omega
            case rel => exact ⟨j + 1, rfl, HLT.out, by go_num, HR.out, HB.out⟩
        · obtain rfl : j = N := by omega
          have hll' : (j : Int) = ((i : Int) + 1) / 2 := by omega
          clear hlt hj hll
          go_wp2
          go_ret
          exact ⟨rfl, HB.out⟩
end Go.Proofs.Ythkceffnfhdjhaa
