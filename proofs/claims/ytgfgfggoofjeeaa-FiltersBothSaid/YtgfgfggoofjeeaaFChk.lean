/-
  THE CONTRACTS of filters.Check and of the reference's.
-/
import Derived.Test.YtgfgfggoofjeeaaFMath
import Derived.Test.YtgfgfggoofjeeaaTTc
namespace Go.Proofs.Ytgfgfggoofjeeaa
open Go.RowKit

/-- is a field empty, or a name? -/
def okN (s : ByteArray) : Bool := s.toList.isEmpty || nb s
theorem okN_e {s : ByteArray} (h : s.toList.isEmpty = true) : okN s = true := by unfold okN; rw [h]; rfl
theorem okN_n {s : ByteArray} (h : nb s = true) : okN s = true := by unfold okN; rw [h, Bool.or_true]
theorem okN_no {s : ByteArray} (h : s.toList.isEmpty = false) (k : nb s = false) : okN s = false := by unfold okN; rw [h, k]; rfl
/-- is there no subject? -/
def noS (f : Fil) : Bool := f.d.toList.isEmpty && f.e.toList.isEmpty && f.f.toList.isEmpty
/-- the number of the error of a filter -/
def fchk (f : Fil) : Int := if !f.x && !noS f then 5 else if okN f.a && okN f.b && okN f.c && (!f.x || okSub f.d f.e f.f) then 0 else 6
theorem ar0 (a b c : ByteArray) (w : World) : (Instr.index 77 (.agg #[.string a, .string b, .string c]) (.int .i64 0)).run Try.prog w = .ok (.string a) w := by kernel_rfl
theorem ar1 (a b c : ByteArray) (w : World) : (Instr.index 77 (.agg #[.string a, .string b, .string c]) (.int .i64 1)).run Try.prog w = .ok (.string b) w := by kernel_rfl
theorem ar2 (a b c : ByteArray) (w : World) : (Instr.index 77 (.agg #[.string a, .string b, .string c]) (.int .i64 2)).run Try.prog w = .ok (.string c) w := by kernel_rfl
def FitF (f : Fil) : Prop := f.a.size ≤ maxLen ∧ f.b.size ≤ maxLen ∧ f.c.size ≤ maxLen ∧ f.d.size ≤ maxLen ∧ f.e.size ≤ maxLen ∧ f.f.size ≤ maxLen
theorem subject_v (a b c : ByteArray) (u : Bool) (w : World) (ha : a.size ≤ maxLen) (hb : b.size ≤ maxLen) (hc : c.size ≤ maxLen) (h : okSub a b c = u) :
    Calls Try.prog 66 #[.agg #[.string a, .string b, .string c]] w fun e w' => e = .returned (.int .i64 (err u)) ∧ Below w.heap.size w w' := by
  have q := subject_any a b c w ha hb hc; rw [h] at q; exact q
theorem fchk_form {f : Fil} (h : f.x = false) (k : noS f = false) : fchk f = 5 := by unfold fchk; rw [h, k]; rfl
theorem fchk_a {f : Fil} (h : (!f.x && !noS f) = false) (k : okN f.a = false) : fchk f = 6 := by unfold fchk; rw [h, k]; rfl
theorem fchk_b {f : Fil} (h : (!f.x && !noS f) = false) (k : okN f.b = false) : fchk f = 6 := by unfold fchk; rw [h, k, Bool.and_false]; rfl
theorem fchk_c {f : Fil} (h : (!f.x && !noS f) = false) (k : okN f.c = false) : fchk f = 6 := by unfold fchk; rw [h, k, Bool.and_false]; rfl
theorem fchk_end {f : Fil} {u : Bool} (h : (!f.x && !noS f) = false) (ka : okN f.a = true) (kb : okN f.b = true) (kc : okN f.c = true) (hu : okSub f.d f.e f.f = u) (hx : f.x = true) : fchk f = err u := by
  unfold fchk; rw [h, ka, kb, kc, hx, hu]; rfl
theorem fchk_ok {f : Fil} (h : (!f.x && !noS f) = false) (ka : okN f.a = true) (kb : okN f.b = true) (kc : okN f.c = true) (hx : f.x = false) : fchk f = 0 := by
  unfold fchk; rw [h, ka, kb, kc, hx]; rfl

set_option maxRecDepth 20000 in
set_option maxHeartbeats 2000000 in
theorem fcheck_false (a b c d e f : ByteArray) (w : World) (sa : a.size ≤ maxLen) (sb : b.size ≤ maxLen) (sc : c.size ≤ maxLen) (hd : d.toList.isEmpty = true) (he : e.toList.isEmpty = true) (hf : f.toList.isEmpty = true) :
    Calls Try.prog 32 #[.agg #[.string a, .string b, .string c, .string d, .string e, .string f, .bool false]] w fun r w' => r = .returned (.int .i64 (fchk ⟨a, b, c, d, e, f, false⟩)) ∧ Below w.heap.size w w' := by
  have HF : Hid ((!(Fil.mk a b c d e f false).x && !noS ⟨a, b, c, d, e, f, false⟩) = false) := hid (by unfold noS; simp [hd, he, hf])
  have i0 := ar0 a b c
  have i1 := ar1 a b c
  have i2 := ar2 a b c
  go_enter Try.func32, Try.ntmps32
  go_wp2
  go_loopw [21] (fun i wr => ∃ k : Nat, k ≤ 3 ∧ i = .int .i64 k ∧ (0 < k → okN a = true) ∧ (1 < k → okN b = true) ∧ (2 < k → okN c = true) ∧ (w.alloc (.cells #[.string a, .string b, .string c, .string d, .string e, .string f, .bool false] 35)) = wr) (fun i _ => 3 - (intOf i).toNat)
  case atStart => exact ⟨0, by omega, rfl, fun h => absurd h (by omega), fun h => absurd h (by omega), fun h => absurd h (by omega), rfl⟩
  case round =>
    obtain ⟨k, hk, rfl, ha, hb, hc, rfl⟩ := hrel
    have HA := hid ha; clear ha
    have HB := hid hb; clear hb
    have HC := hid hc; clear hc
    have hw : Below w.heap.size w (w.alloc (.cells #[.string a, .string b, .string c, .string d, .string e, .string f, .bool false] 35)) := g_alloc g_refl _
    rcases (show k = 0 ∨ k = 1 ∨ k = 2 ∨ k = 3 by omega) with rfl | rfl | rfl | rfl <;> clear hk
    · cases ea : a.toList.isEmpty
      · cases na : nb a
        · have HK := hid (fchk_a (f := ⟨a, b, c, d, e, f, false⟩) HF.out (okN_no ea na))
          go_wp2_with fail
          refine (check_no a _ sa na).mono ?_
          rintro r w' ⟨rfl, rfl⟩
          go_wp2
          go_ret
          exact ⟨ret_int HK.out.symm, hw⟩
        · go_wp2_with fail
          refine (check_yes a _ sa na).mono ?_
          rintro r w' ⟨rfl, rfl⟩
          go_wp2
          go_roundw
          case rel => exact ⟨0+1, by omega, by go_num, fun _ => okN_n na, fun h => absurd h (by omega), fun h => absurd h (by omega), by trivial⟩
          case measure => simp [intOf]
      · go_wp2
        go_roundw
        case rel => exact ⟨0+1, by omega, by go_num, fun _ => okN_e ea, fun h => absurd h (by omega), fun h => absurd h (by omega), by trivial⟩
        case measure => simp [intOf]
    · cases eb : b.toList.isEmpty
      · cases nb : nb b
        · have HK := hid (fchk_b (f := ⟨a, b, c, d, e, f, false⟩) HF.out (okN_no eb nb))
          go_wp2_with fail
          refine (check_no b _ sb nb).mono ?_
          rintro r w' ⟨rfl, rfl⟩
          go_wp2
          go_ret
          exact ⟨ret_int HK.out.symm, hw⟩
        · go_wp2_with fail
          refine (check_yes b _ sb nb).mono ?_
          rintro r w' ⟨rfl, rfl⟩
          go_wp2
          go_roundw
          case rel => exact ⟨1+1, by omega, by go_num, fun _ => HA.out (by omega), fun _ => okN_n nb, fun h => absurd h (by omega), by trivial⟩
          case measure => simp [intOf]
      · go_wp2
        go_roundw
        case rel => exact ⟨1+1, by omega, by go_num, fun _ => HA.out (by omega), fun _ => okN_e eb, fun h => absurd h (by omega), by trivial⟩
        case measure => simp [intOf]
    · cases ec : c.toList.isEmpty
      · cases nc : nb c
        · have HK := hid (fchk_c (f := ⟨a, b, c, d, e, f, false⟩) HF.out (okN_no ec nc))
          go_wp2_with fail
          refine (check_no c _ sc nc).mono ?_
          rintro r w' ⟨rfl, rfl⟩
          go_wp2
          go_ret
          exact ⟨ret_int HK.out.symm, hw⟩
        · go_wp2_with fail
          refine (check_yes c _ sc nc).mono ?_
          rintro r w' ⟨rfl, rfl⟩
          go_wp2
          go_roundw
          case rel => exact ⟨2+1, by omega, by go_num, fun _ => HA.out (by omega), fun _ => HB.out (by omega), fun _ => okN_n nc, by trivial⟩
          case measure => simp [intOf]
      · go_wp2
        go_roundw
        case rel => exact ⟨2+1, by omega, by go_num, fun _ => HA.out (by omega), fun _ => HB.out (by omega), fun _ => okN_e ec, by trivial⟩
        case measure => simp [intOf]
    · have HK := hid (fchk_ok (f := ⟨a, b, c, d, e, f, false⟩) HF.out (HA.out (by omega)) (HB.out (by omega)) (HC.out (by omega)) rfl)
      go_wp2
      go_ret
      exact ⟨ret_int HK.out.symm, hw⟩

set_option maxRecDepth 20000 in
set_option maxHeartbeats 2000000 in
theorem fcheck_true (a b c d e f : ByteArray) (w : World) (sa : a.size ≤ maxLen) (sb : b.size ≤ maxLen) (sc : c.size ≤ maxLen) (sd : d.size ≤ maxLen) (se : e.size ≤ maxLen) (sf : f.size ≤ maxLen) :
    Calls Try.prog 32 #[.agg #[.string a, .string b, .string c, .string d, .string e, .string f, .bool true]] w fun r w' => r = .returned (.int .i64 (fchk ⟨a, b, c, d, e, f, true⟩)) ∧ Below w.heap.size w w' := by
  have HF : Hid ((!(Fil.mk a b c d e f true).x && !noS ⟨a, b, c, d, e, f, true⟩) = false) := hid (by rfl)
  have i0 := ar0 a b c
  have i1 := ar1 a b c
  have i2 := ar2 a b c
  go_enter Try.func32, Try.ntmps32
  go_wp2
  go_loopw [21] (fun i wr => ∃ k : Nat, k ≤ 3 ∧ i = .int .i64 k ∧ (0 < k → okN a = true) ∧ (1 < k → okN b = true) ∧ (2 < k → okN c = true) ∧ (w.alloc (.cells #[.string a, .string b, .string c, .string d, .string e, .string f, .bool true] 35)) = wr) (fun i _ => 3 - (intOf i).toNat)
  case atStart => exact ⟨0, by omega, rfl, fun h => absurd h (by omega), fun h => absurd h (by omega), fun h => absurd h (by omega), rfl⟩
  case round =>
    obtain ⟨k, hk, rfl, ha, hb, hc, rfl⟩ := hrel
    have HA := hid ha; clear ha
    have HB := hid hb; clear hb
    have HC := hid hc; clear hc
    have hw : Below w.heap.size w (w.alloc (.cells #[.string a, .string b, .string c, .string d, .string e, .string f, .bool true] 35)) := g_alloc g_refl _
    rcases (show k = 0 ∨ k = 1 ∨ k = 2 ∨ k = 3 by omega) with rfl | rfl | rfl | rfl <;> clear hk
    · cases ea : a.toList.isEmpty
      · cases na : nb a
        · have HK := hid (fchk_a (f := ⟨a, b, c, d, e, f, true⟩) HF.out (okN_no ea na))
          go_wp2_with fail
          refine (check_no a _ sa na).mono ?_
          rintro r w' ⟨rfl, rfl⟩
          go_wp2
          go_ret
          exact ⟨ret_int HK.out.symm, hw⟩
        · go_wp2_with fail
          refine (check_yes a _ sa na).mono ?_
          rintro r w' ⟨rfl, rfl⟩
          go_wp2
          go_roundw
          case rel => exact ⟨0+1, by omega, by go_num, fun _ => okN_n na, fun h => absurd h (by omega), fun h => absurd h (by omega), by trivial⟩
          case measure => simp [intOf]
      · go_wp2
        go_roundw
        case rel => exact ⟨0+1, by omega, by go_num, fun _ => okN_e ea, fun h => absurd h (by omega), fun h => absurd h (by omega), by trivial⟩
        case measure => simp [intOf]
    · cases eb : b.toList.isEmpty
      · cases nb : nb b
        · have HK := hid (fchk_b (f := ⟨a, b, c, d, e, f, true⟩) HF.out (okN_no eb nb))
          go_wp2_with fail
          refine (check_no b _ sb nb).mono ?_
          rintro r w' ⟨rfl, rfl⟩
          go_wp2
          go_ret
          exact ⟨ret_int HK.out.symm, hw⟩
        · go_wp2_with fail
          refine (check_yes b _ sb nb).mono ?_
          rintro r w' ⟨rfl, rfl⟩
          go_wp2
          go_roundw
          case rel => exact ⟨1+1, by omega, by go_num, fun _ => HA.out (by omega), fun _ => okN_n nb, fun h => absurd h (by omega), by trivial⟩
          case measure => simp [intOf]
      · go_wp2
        go_roundw
        case rel => exact ⟨1+1, by omega, by go_num, fun _ => HA.out (by omega), fun _ => okN_e eb, fun h => absurd h (by omega), by trivial⟩
        case measure => simp [intOf]
    · cases ec : c.toList.isEmpty
      · cases nc : nb c
        · have HK := hid (fchk_c (f := ⟨a, b, c, d, e, f, true⟩) HF.out (okN_no ec nc))
          go_wp2_with fail
          refine (check_no c _ sc nc).mono ?_
          rintro r w' ⟨rfl, rfl⟩
          go_wp2
          go_ret
          exact ⟨ret_int HK.out.symm, hw⟩
        · go_wp2_with fail
          refine (check_yes c _ sc nc).mono ?_
          rintro r w' ⟨rfl, rfl⟩
          go_wp2
          go_roundw
          case rel => exact ⟨2+1, by omega, by go_num, fun _ => HA.out (by omega), fun _ => HB.out (by omega), fun _ => okN_n nc, by trivial⟩
          case measure => simp [intOf]
      · go_wp2
        go_roundw
        case rel => exact ⟨2+1, by omega, by go_num, fun _ => HA.out (by omega), fun _ => HB.out (by omega), fun _ => okN_e ec, by trivial⟩
        case measure => simp [intOf]
    · obtain ⟨u, hu⟩ : ∃ u, okSub d e f = u := ⟨_, rfl⟩
      have HK := hid (fchk_end (f := ⟨a, b, c, d, e, f, true⟩) HF.out (HA.out (by omega)) (HB.out (by omega)) (HC.out (by omega)) hu rfl)
      go_wp2_with fail
      refine (subject_v d e f u _ sd se sf hu).mono ?_
      rintro r w' ⟨rfl, hw2⟩
      go_wp2
      go_ret
      exact ⟨ret_int HK.out.symm, g_trans hw hw2⟩

set_option maxHeartbeats 1000000 in
theorem fcheck_d (a b c d e f : ByteArray) (w : World) (hd : d.toList.isEmpty = false) :
    Calls Try.prog 32 #[.agg #[.string a, .string b, .string c, .string d, .string e, .string f, .bool false]] w fun r w' => r = .returned (.int .i64 (fchk ⟨a, b, c, d, e, f, false⟩)) ∧ Below w.heap.size w w' := by
  have HK := hid (fchk_form (f := ⟨a, b, c, d, e, f, false⟩) rfl (by unfold noS; simp [*]))
  go_enter Try.func32, Try.ntmps32
  go_wp2
  go_ret
  exact ⟨ret_int HK.out.symm, g_alloc g_refl _⟩

set_option maxHeartbeats 1000000 in
theorem fcheck_e (a b c d e f : ByteArray) (w : World) (hd : d.toList.isEmpty = true) (he : e.toList.isEmpty = false) :
    Calls Try.prog 32 #[.agg #[.string a, .string b, .string c, .string d, .string e, .string f, .bool false]] w fun r w' => r = .returned (.int .i64 (fchk ⟨a, b, c, d, e, f, false⟩)) ∧ Below w.heap.size w w' := by
  have HK := hid (fchk_form (f := ⟨a, b, c, d, e, f, false⟩) rfl (by unfold noS; simp [*]))
  go_enter Try.func32, Try.ntmps32
  go_wp2
  go_ret
  exact ⟨ret_int HK.out.symm, g_alloc g_refl _⟩

set_option maxHeartbeats 1000000 in
theorem fcheck_f (a b c d e f : ByteArray) (w : World) (hd : d.toList.isEmpty = true) (he : e.toList.isEmpty = true) (hf : f.toList.isEmpty = false) :
    Calls Try.prog 32 #[.agg #[.string a, .string b, .string c, .string d, .string e, .string f, .bool false]] w fun r w' => r = .returned (.int .i64 (fchk ⟨a, b, c, d, e, f, false⟩)) ∧ Below w.heap.size w w' := by
  have HK := hid (fchk_form (f := ⟨a, b, c, d, e, f, false⟩) rfl (by unfold noS; simp [*]))
  go_enter Try.func32, Try.ntmps32
  go_wp2
  go_ret
  exact ⟨ret_int HK.out.symm, g_alloc g_refl _⟩

theorem fcheck (f : Fil) (w : World) (h : FitF f) :
    Calls Try.prog 32 #[valF f] w fun r w' => r = .returned (.int .i64 (fchk f)) ∧ Below w.heap.size w w' := by
  obtain ⟨a, b, c, d, e, f, x⟩ := f
  obtain ⟨sa, sb, sc, sd, se, sf⟩ := h
  cases x
  · cases hd : d.toList.isEmpty
    · exact fcheck_d a b c d e f w hd
    · cases he : e.toList.isEmpty
      · exact fcheck_e a b c d e f w hd he
      · cases hf : f.toList.isEmpty
        · exact fcheck_f a b c d e f w hd he hf
        · exact fcheck_false a b c d e f w sa sb sc hd he hf
  · exact fcheck_true a b c d e f w sa sb sc sd se sf

set_option maxRecDepth 20000 in
set_option maxHeartbeats 2000000 in
theorem rfcheck_false (a b c d e f : ByteArray) (w : World) (sa : a.size ≤ maxLen) (sb : b.size ≤ maxLen) (sc : c.size ≤ maxLen) (hd : d.toList.isEmpty = true) (he : e.toList.isEmpty = true) (hf : f.toList.isEmpty = true) :
    Calls Try.prog 9 #[.agg #[.string a, .string b, .string c, .string d, .string e, .string f, .bool false]] w fun r w' => r = .returned (.int .i64 (fchk ⟨a, b, c, d, e, f, false⟩)) ∧ Below w.heap.size w w' := by
  have HF : Hid ((!(Fil.mk a b c d e f false).x && !noS ⟨a, b, c, d, e, f, false⟩) = false) := hid (by unfold noS; simp [hd, he, hf])
  go_enter Try.func9, Try.ntmps9
  go_wp2
  go_loopw [5] (fun i wr => ∃ k : Nat, k ≤ 3 ∧ i = .int .i64 k ∧ (0 < k → okN a = true) ∧ (1 < k → okN b = true) ∧ (2 < k → okN c = true) ∧ (((w.alloc (.cells #[.string a, .string b, .string c, .string d, .string e, .string f, .bool false] 35)).alloc (.cells #[.string ⟨#[]⟩, .string ⟨#[]⟩, .string ⟨#[]⟩] 33)).alloc (.cells #[.string a, .string b, .string c] 9)) = wr) (fun i _ => 3 - (intOf i).toNat)
  case atStart => exact ⟨0, by omega, rfl, fun h => absurd h (by omega), fun h => absurd h (by omega), fun h => absurd h (by omega), rfl⟩
  case round =>
    obtain ⟨k, hk, rfl, ha, hb, hc, rfl⟩ := hrel
    have HA := hid ha; clear ha
    have HB := hid hb; clear hb
    have HC := hid hc; clear hc
    have hw : Below w.heap.size w (((w.alloc (.cells #[.string a, .string b, .string c, .string d, .string e, .string f, .bool false] 35)).alloc (.cells #[.string ⟨#[]⟩, .string ⟨#[]⟩, .string ⟨#[]⟩] 33)).alloc (.cells #[.string a, .string b, .string c] 9)) := g_alloc (g_alloc (g_alloc g_refl _) _) _
    rcases (show k = 0 ∨ k = 1 ∨ k = 2 ∨ k = 3 by omega) with rfl | rfl | rfl | rfl <;> clear hk
    · cases ea : a.toList.isEmpty
      · cases na : nb a
        · have HK := hid (fchk_a (f := ⟨a, b, c, d, e, f, false⟩) HF.out (okN_no ea na))
          go_wp2_with fail
          refine (rcheck_no a _ sa na).mono ?_
          rintro r w' ⟨rfl, rfl⟩
          go_wp2
          go_ret
          exact ⟨ret_int HK.out.symm, hw⟩
        · go_wp2_with fail
          refine (rcheck_yes a _ sa na).mono ?_
          rintro r w' ⟨rfl, rfl⟩
          go_wp2
          go_roundw
          case rel => exact ⟨0+1, by omega, by go_num, fun _ => okN_n na, fun h => absurd h (by omega), fun h => absurd h (by omega), by trivial⟩
          case measure => simp [intOf]
      · go_wp2
        go_roundw
        case rel => exact ⟨0+1, by omega, by go_num, fun _ => okN_e ea, fun h => absurd h (by omega), fun h => absurd h (by omega), by trivial⟩
        case measure => simp [intOf]
    · cases eb : b.toList.isEmpty
      · cases nb : nb b
        · have HK := hid (fchk_b (f := ⟨a, b, c, d, e, f, false⟩) HF.out (okN_no eb nb))
          go_wp2_with fail
          refine (rcheck_no b _ sb nb).mono ?_
          rintro r w' ⟨rfl, rfl⟩
          go_wp2
          go_ret
          exact ⟨ret_int HK.out.symm, hw⟩
        · go_wp2_with fail
          refine (rcheck_yes b _ sb nb).mono ?_
          rintro r w' ⟨rfl, rfl⟩
          go_wp2
          go_roundw
          case rel => exact ⟨1+1, by omega, by go_num, fun _ => HA.out (by omega), fun _ => okN_n nb, fun h => absurd h (by omega), by trivial⟩
          case measure => simp [intOf]
      · go_wp2
        go_roundw
        case rel => exact ⟨1+1, by omega, by go_num, fun _ => HA.out (by omega), fun _ => okN_e eb, fun h => absurd h (by omega), by trivial⟩
        case measure => simp [intOf]
    · cases ec : c.toList.isEmpty
      · cases nc : nb c
        · have HK := hid (fchk_c (f := ⟨a, b, c, d, e, f, false⟩) HF.out (okN_no ec nc))
          go_wp2_with fail
          refine (rcheck_no c _ sc nc).mono ?_
          rintro r w' ⟨rfl, rfl⟩
          go_wp2
          go_ret
          exact ⟨ret_int HK.out.symm, hw⟩
        · go_wp2_with fail
          refine (rcheck_yes c _ sc nc).mono ?_
          rintro r w' ⟨rfl, rfl⟩
          go_wp2
          go_roundw
          case rel => exact ⟨2+1, by omega, by go_num, fun _ => HA.out (by omega), fun _ => HB.out (by omega), fun _ => okN_n nc, by trivial⟩
          case measure => simp [intOf]
      · go_wp2
        go_roundw
        case rel => exact ⟨2+1, by omega, by go_num, fun _ => HA.out (by omega), fun _ => HB.out (by omega), fun _ => okN_e ec, by trivial⟩
        case measure => simp [intOf]
    · have HK := hid (fchk_ok (f := ⟨a, b, c, d, e, f, false⟩) HF.out (HA.out (by omega)) (HB.out (by omega)) (HC.out (by omega)) rfl)
      go_wp2
      go_ret
      exact ⟨ret_int HK.out.symm, hw⟩

set_option maxRecDepth 20000 in
set_option maxHeartbeats 2000000 in
theorem rfcheck_true (a b c d e f : ByteArray) (w : World) (sa : a.size ≤ maxLen) (sb : b.size ≤ maxLen) (sc : c.size ≤ maxLen) (sd : d.size ≤ maxLen) (se : e.size ≤ maxLen) (sf : f.size ≤ maxLen) :
    Calls Try.prog 9 #[.agg #[.string a, .string b, .string c, .string d, .string e, .string f, .bool true]] w fun r w' => r = .returned (.int .i64 (fchk ⟨a, b, c, d, e, f, true⟩)) ∧ Below w.heap.size w w' := by
  have HF : Hid ((!(Fil.mk a b c d e f true).x && !noS ⟨a, b, c, d, e, f, true⟩) = false) := hid (by rfl)
  go_enter Try.func9, Try.ntmps9
  go_wp2
  go_loopw [5] (fun i wr => ∃ k : Nat, k ≤ 3 ∧ i = .int .i64 k ∧ (0 < k → okN a = true) ∧ (1 < k → okN b = true) ∧ (2 < k → okN c = true) ∧ (((w.alloc (.cells #[.string a, .string b, .string c, .string d, .string e, .string f, .bool true] 35)).alloc (.cells #[.string ⟨#[]⟩, .string ⟨#[]⟩, .string ⟨#[]⟩] 33)).alloc (.cells #[.string a, .string b, .string c] 9)) = wr) (fun i _ => 3 - (intOf i).toNat)
  case atStart => exact ⟨0, by omega, rfl, fun h => absurd h (by omega), fun h => absurd h (by omega), fun h => absurd h (by omega), rfl⟩
  case round =>
    obtain ⟨k, hk, rfl, ha, hb, hc, rfl⟩ := hrel
    have HA := hid ha; clear ha
    have HB := hid hb; clear hb
    have HC := hid hc; clear hc
    have hw : Below w.heap.size w (((w.alloc (.cells #[.string a, .string b, .string c, .string d, .string e, .string f, .bool true] 35)).alloc (.cells #[.string ⟨#[]⟩, .string ⟨#[]⟩, .string ⟨#[]⟩] 33)).alloc (.cells #[.string a, .string b, .string c] 9)) := g_alloc (g_alloc (g_alloc g_refl _) _) _
    rcases (show k = 0 ∨ k = 1 ∨ k = 2 ∨ k = 3 by omega) with rfl | rfl | rfl | rfl <;> clear hk
    · cases ea : a.toList.isEmpty
      · cases na : nb a
        · have HK := hid (fchk_a (f := ⟨a, b, c, d, e, f, true⟩) HF.out (okN_no ea na))
          go_wp2_with fail
          refine (rcheck_no a _ sa na).mono ?_
          rintro r w' ⟨rfl, rfl⟩
          go_wp2
          go_ret
          exact ⟨ret_int HK.out.symm, hw⟩
        · go_wp2_with fail
          refine (rcheck_yes a _ sa na).mono ?_
          rintro r w' ⟨rfl, rfl⟩
          go_wp2
          go_roundw
          case rel => exact ⟨0+1, by omega, by go_num, fun _ => okN_n na, fun h => absurd h (by omega), fun h => absurd h (by omega), by trivial⟩
          case measure => simp [intOf]
      · go_wp2
        go_roundw
        case rel => exact ⟨0+1, by omega, by go_num, fun _ => okN_e ea, fun h => absurd h (by omega), fun h => absurd h (by omega), by trivial⟩
        case measure => simp [intOf]
    · cases eb : b.toList.isEmpty
      · cases nb : nb b
        · have HK := hid (fchk_b (f := ⟨a, b, c, d, e, f, true⟩) HF.out (okN_no eb nb))
          go_wp2_with fail
          refine (rcheck_no b _ sb nb).mono ?_
          rintro r w' ⟨rfl, rfl⟩
          go_wp2
          go_ret
          exact ⟨ret_int HK.out.symm, hw⟩
        · go_wp2_with fail
          refine (rcheck_yes b _ sb nb).mono ?_
          rintro r w' ⟨rfl, rfl⟩
          go_wp2
          go_roundw
          case rel => exact ⟨1+1, by omega, by go_num, fun _ => HA.out (by omega), fun _ => okN_n nb, fun h => absurd h (by omega), by trivial⟩
          case measure => simp [intOf]
      · go_wp2
        go_roundw
        case rel => exact ⟨1+1, by omega, by go_num, fun _ => HA.out (by omega), fun _ => okN_e eb, fun h => absurd h (by omega), by trivial⟩
        case measure => simp [intOf]
    · cases ec : c.toList.isEmpty
      · cases nc : nb c
        · have HK := hid (fchk_c (f := ⟨a, b, c, d, e, f, true⟩) HF.out (okN_no ec nc))
          go_wp2_with fail
          refine (rcheck_no c _ sc nc).mono ?_
          rintro r w' ⟨rfl, rfl⟩
          go_wp2
          go_ret
          exact ⟨ret_int HK.out.symm, hw⟩
        · go_wp2_with fail
          refine (rcheck_yes c _ sc nc).mono ?_
          rintro r w' ⟨rfl, rfl⟩
          go_wp2
          go_roundw
          case rel => exact ⟨2+1, by omega, by go_num, fun _ => HA.out (by omega), fun _ => HB.out (by omega), fun _ => okN_n nc, by trivial⟩
          case measure => simp [intOf]
      · go_wp2
        go_roundw
        case rel => exact ⟨2+1, by omega, by go_num, fun _ => HA.out (by omega), fun _ => HB.out (by omega), fun _ => okN_e ec, by trivial⟩
        case measure => simp [intOf]
    · obtain ⟨u, hu⟩ : ∃ u, okSub d e f = u := ⟨_, rfl⟩
      have HK := hid (fchk_end (f := ⟨a, b, c, d, e, f, true⟩) HF.out (HA.out (by omega)) (HB.out (by omega)) (HC.out (by omega)) hu rfl)
      cases u
      · go_wp2_with fail
        refine (rsubject_v d e f false _ sd se sf hu).mono ?_
        rintro r w' ⟨rfl, hw2⟩
        simp only [err]
        go_wp2
        go_ret
        exact ⟨ret_int HK.out.symm, g_trans hw hw2⟩
      · go_wp2_with fail
        refine (rsubject_v d e f true _ sd se sf hu).mono ?_
        rintro r w' ⟨rfl, hw2⟩
        simp only [err]
        go_wp2
        go_ret
        exact ⟨ret_int HK.out.symm, g_trans hw hw2⟩

set_option maxHeartbeats 1000000 in
theorem rfcheck_d (a b c d e f : ByteArray) (w : World) (hd : d.toList.isEmpty = false) :
    Calls Try.prog 9 #[.agg #[.string a, .string b, .string c, .string d, .string e, .string f, .bool false]] w fun r w' => r = .returned (.int .i64 (fchk ⟨a, b, c, d, e, f, false⟩)) ∧ Below w.heap.size w w' := by
  have HK := hid (fchk_form (f := ⟨a, b, c, d, e, f, false⟩) rfl (by unfold noS; simp [*]))
  go_enter Try.func9, Try.ntmps9
  go_wp2
  go_ret
  exact ⟨ret_int HK.out.symm, g_alloc (g_alloc g_refl _) _⟩

set_option maxHeartbeats 1000000 in
theorem rfcheck_e (a b c d e f : ByteArray) (w : World) (hd : d.toList.isEmpty = true) (he : e.toList.isEmpty = false) :
    Calls Try.prog 9 #[.agg #[.string a, .string b, .string c, .string d, .string e, .string f, .bool false]] w fun r w' => r = .returned (.int .i64 (fchk ⟨a, b, c, d, e, f, false⟩)) ∧ Below w.heap.size w w' := by
  have HK := hid (fchk_form (f := ⟨a, b, c, d, e, f, false⟩) rfl (by unfold noS; simp [*]))
  go_enter Try.func9, Try.ntmps9
  go_wp2
  go_ret
  exact ⟨ret_int HK.out.symm, g_alloc (g_alloc g_refl _) _⟩

set_option maxHeartbeats 1000000 in
theorem rfcheck_f (a b c d e f : ByteArray) (w : World) (hd : d.toList.isEmpty = true) (he : e.toList.isEmpty = true) (hf : f.toList.isEmpty = false) :
    Calls Try.prog 9 #[.agg #[.string a, .string b, .string c, .string d, .string e, .string f, .bool false]] w fun r w' => r = .returned (.int .i64 (fchk ⟨a, b, c, d, e, f, false⟩)) ∧ Below w.heap.size w w' := by
  have HK := hid (fchk_form (f := ⟨a, b, c, d, e, f, false⟩) rfl (by unfold noS; simp [*]))
  go_enter Try.func9, Try.ntmps9
  go_wp2
  go_ret
  exact ⟨ret_int HK.out.symm, g_alloc (g_alloc g_refl _) _⟩

theorem rfcheck (f : Fil) (w : World) (h : FitF f) :
    Calls Try.prog 9 #[valF f] w fun r w' => r = .returned (.int .i64 (fchk f)) ∧ Below w.heap.size w w' := by
  obtain ⟨a, b, c, d, e, f, x⟩ := f
  obtain ⟨sa, sb, sc, sd, se, sf⟩ := h
  cases x
  · cases hd : d.toList.isEmpty
    · exact rfcheck_d a b c d e f w hd
    · cases he : e.toList.isEmpty
      · exact rfcheck_e a b c d e f w hd he
      · cases hf : f.toList.isEmpty
        · exact rfcheck_f a b c d e f w hd he hf
        · exact rfcheck_false a b c d e f w sa sb sc hd he hf
  · exact rfcheck_true a b c d e f w sa sb sc sd se sf

end Go.Proofs.Ytgfgfggoofjeeaa
