/-
  THE CONTRACTS of the Compare functions, and of the reference's: both give the order of the fields; what lay below stands.
-/
import Derived.Test.YtgfgfggoofjeeaaWAll
import Derived.Test.YtgfgfggoofjeeaaShelf
namespace Go.Proofs.Ytgfgfggoofjeeaa
open Go.RowKit

/-- the order of two strings -/
def cmpS (a b : ByteArray) : Int := Lib.compareBytes a.data.toList b.data.toList

theorem drop_at (s : ByteArray) (k : Nat) (h : k < s.size) : s.data.toList.drop k = s[k] :: s.data.toList.drop (k + 1) := by
  rw [List.drop_eq_getElem_cons (by simpa using h)]; rfl
theorem drop_out (s : ByteArray) (k : Nat) (h : ¬ k < s.size) : s.data.toList.drop k = [] := List.drop_eq_nil_of_le (by simpa using h)
theorem cmp_lt (a b : ByteArray) (k : Nat) (ha : k < a.size) (hb : k < b.size) (h : (a[k].toNat : Int) < (b[k].toNat : Int)) : Lib.compareBytes (a.data.toList.drop k) (b.data.toList.drop k) = -1 := by
  rw [drop_at a k ha, drop_at b k hb, Lib.compareBytes, if_pos (by rw [UInt8.lt_iff_toNat_lt]; omega)]
theorem cmp_gt (a b : ByteArray) (k : Nat) (ha : k < a.size) (hb : k < b.size) (h : (b[k].toNat : Int) < (a[k].toNat : Int)) : Lib.compareBytes (a.data.toList.drop k) (b.data.toList.drop k) = 1 := by
  rw [drop_at a k ha, drop_at b k hb, Lib.compareBytes, if_neg (by rw [UInt8.lt_iff_toNat_lt]; omega), if_pos (by rw [UInt8.lt_iff_toNat_lt]; omega)]
theorem cmp_eq (a b : ByteArray) (k : Nat) (ha : k < a.size) (hb : k < b.size) (h1 : ¬ (a[k].toNat : Int) < (b[k].toNat : Int)) (h2 : ¬ (b[k].toNat : Int) < (a[k].toNat : Int)) :
    Lib.compareBytes (a.data.toList.drop (k + 1)) (b.data.toList.drop (k + 1)) = Lib.compareBytes (a.data.toList.drop k) (b.data.toList.drop k) := by
  rw [drop_at a k ha, drop_at b k hb, Lib.compareBytes, if_neg (by rw [UInt8.lt_iff_toNat_lt]; omega), if_neg (by rw [UInt8.lt_iff_toNat_lt]; omega)]
theorem cmp_end_b (a b : ByteArray) (k : Nat) (ha : k < a.size) (hb : ¬ k < b.size) : Lib.compareBytes (a.data.toList.drop k) (b.data.toList.drop k) = 1 := by
  rw [drop_at a k ha, drop_out b k hb]; rfl
theorem cmp_end_a (a b : ByteArray) (k : Nat) (ha : ¬ k < a.size) (hb : k < b.size) : Lib.compareBytes (a.data.toList.drop k) (b.data.toList.drop k) = -1 := by
  rw [drop_at b k hb, drop_out a k ha]; rfl
theorem cmp_end (a b : ByteArray) (k : Nat) (ha : ¬ k < a.size) (hb : ¬ k < b.size) : Lib.compareBytes (a.data.toList.drop k) (b.data.toList.drop k) = 0 := by
  rw [drop_out a k ha, drop_out b k hb]; rfl

set_option maxHeartbeats 800000 in
theorem order_any (a b : ByteArray) (w : World) (ha : a.size ≤ maxLen) (_hb : b.size ≤ maxLen) :
    Calls Try.prog 99 #[.string a, .string b] w fun e w' => e = .returned (.int .i64 (cmpS a b)) ∧ Below w.heap.size w w' := by
  unfold maxLen at ha
  go_enter Try.func99, Try.ntmps99
  go_wp2
  go_loopw [5] (fun i wr => ∃ k : Nat, k ≤ a.size ∧ k ≤ b.size ∧ i = .int .i64 k ∧ Lib.compareBytes (a.data.toList.drop k) (b.data.toList.drop k) = cmpS a b ∧ Below w.heap.size w wr) (fun i _ => a.size - (intOf i).toNat)
  case atStart => exact ⟨0, Nat.zero_le _, Nat.zero_le _, rfl, rfl, g_refl⟩
  case round =>
    obtain ⟨k, hka, hkb, rfl, hd, hw⟩ := hrel
    have HD := hid hd; clear hd
    by_cases hla : k < a.size
    · by_cases hlb : k < b.size
      · have b1 : (0 : Int) ≤ (k : Int) := by omega
        have b2 : (k : Int) < (a.size : Int) := by omega
        have b3 : (k : Int) < (b.size : Int) := by omega
        by_cases h1 : (a[k].toNat : Int) < (b[k].toNat : Int)
        · go_wp2
          go_quiet (fail)
          go_wp2
          go_ret
          exact ⟨ret_int (HD.out ▸ (cmp_lt a b k hla hlb h1).symm), g_drewN hw _⟩
        · by_cases h2 : (b[k].toNat : Int) < (a[k].toNat : Int)
          · go_wp2
            go_quiet (fail)
            go_wp2
            go_quiet (fail)
            go_wp2
            go_ret
            exact ⟨ret_int (HD.out ▸ (cmp_gt a b k hla hlb h2).symm), g_drewN (g_drewN hw _) _⟩
          · go_wp2
            go_quiet (fail)
            go_wp2
            go_quiet (fail)
            go_wp2
            go_roundw
            case rel => exact ⟨k + 1, by omega, by omega, by go_num, (cmp_eq a b k hla hlb (by omega) (by omega)).trans HD.out, g_drewN hw _⟩
            case measure => simp [intOf]; omega
      · have hlb' : ¬ a.size < b.size := by omega
        have hlb2 : b.size < a.size := by omega
        go_wp2
        go_ret
        exact ⟨ret_int (HD.out ▸ (cmp_end_b a b k hla hlb).symm), hw⟩
    · by_cases hlb : k < b.size
      · go_wp2
        go_ret
        exact ⟨ret_int (HD.out ▸ (cmp_end_a a b k hla hlb).symm), hw⟩
      · go_wp2
        go_ret
        exact ⟨ret_int (HD.out ▸ (cmp_end a b k hla hlb).symm), hw⟩

/-- the order of the first pair whose fields differ -/
def lexS : List (ByteArray × ByteArray) → Int
  | [] => 0
  | p :: r => if cmpS p.1 p.2 = 0 then lexS r else cmpS p.1 p.2
theorem lex_step (ss : List (ByteArray × ByteArray)) (k : Nat) (h : k < ss.length) (hz : cmpS ss[k].1 ss[k].2 = 0) : lexS (ss.drop (k + 1)) = lexS (ss.drop k) := by
  rw [List.drop_eq_getElem_cons h, lexS, if_pos hz]
theorem lex_stop (ss : List (ByteArray × ByteArray)) (k : Nat) (h : k < ss.length) (hz : ¬ cmpS ss[k].1 ss[k].2 = 0) : lexS (ss.drop k) = cmpS ss[k].1 ss[k].2 := by
  rw [List.drop_eq_getElem_cons h, lexS, if_neg hz]
theorem lex_end (ss : List (ByteArray × ByteArray)) (k : Nat) (h : ¬ k < ss.length) : lexS (ss.drop k) = 0 := by
  rw [List.drop_eq_nil_of_le (by omega)]; rfl
theorem strCmp (a b : ByteArray) (w : World) :
    Calls Try.prog 77 #[.string a, .string b] w fun e w' => e = .returned (.int .i64 (cmpS a b)) ∧ w = w' :=
  (Try.strings_Compare a b w).mono fun _ _ h => ⟨h.1, h.2.symm⟩

theorem strCmpV (a b : ByteArray) (c : Int) (w : World) (h : cmpS a b = c) :
    Calls Try.prog 77 #[.string a, .string b] w fun e w' => e = .returned (.int .i64 c) ∧ w = w' := by
  have q := strCmp a b w; rw [h] at q; exact q

set_option maxHeartbeats 800000 in
theorem compareFields_any (ss : List (ByteArray × ByteArray)) (b : Nat) (w : World) (hn : ss.length ≤ 100) (hb : b < w.heap.size)
    (hc : ∀ k, (h : k < ss.length) → w.cell? ⟨b, k * 2, none⟩ = some (.string ss[k].1) ∧ w.cell? ⟨b, k * 2 + 1, none⟩ = some (.string ss[k].2)) :
    Calls Try.prog 101 #[.slice (some ⟨b, 0, none⟩) ss.length ss.length] w fun e w' => e = .returned (.int .i64 (lexS ss)) ∧ Below w.heap.size w w' := by
  have HC := hid hc; clear hc
  go_enter Try.func101, Try.ntmps101
  go_wp2
  go_loopw [8] (fun i wr => ∃ k : Nat, k ≤ ss.length ∧ i = .int .i64 k ∧ lexS (ss.drop k) = lexS ss ∧ Below w.heap.size w wr) (fun i _ => ss.length - (intOf i).toNat)
  case atStart => exact ⟨0, Nat.zero_le _, rfl, rfl, g_refl⟩
  case round =>
    obtain ⟨k, hk, rfl, hx, hw⟩ := hrel
    have HX := hid hx; clear hx
    by_cases hlt : k < ss.length
    · have hc0 : wr.cell? ⟨b, k * 2, none⟩ = some (.string ss[k].1) := (hw.cell (p := ⟨b, k * 2, none⟩) hb).trans (HC.out k hlt).1
      have hc1 : wr.cell? ⟨b, k * 2 + 1, none⟩ = some (.string ss[k].2) := (hw.cell (p := ⟨b, k * 2 + 1, none⟩) hb).trans (HC.out k hlt).2
      by_cases hz : cmpS ss[k].1 ss[k].2 = 0
      · have HZ := hid hz; clear hz
        go_wp2_with fail
        refine (strCmpV _ _ 0 _ HZ.out).mono ?_
        rintro e w' ⟨rfl, rfl⟩
        go_wp2
        go_roundw
        case rel => exact ⟨k + 1, by omega, by go_num, (lex_step ss k hlt HZ.out).trans HX.out, g_alloc hw _⟩
        case measure => simp [intOf]; omega
      · obtain ⟨c, hcz⟩ : ∃ c, cmpS ss[k].1 ss[k].2 = c := ⟨_, rfl⟩
        have hz1 : ¬ c = 0 := fun e => hz (hcz.trans e)
        have HZ := hid hz; clear hz
        have HCZ := hid hcz; clear hcz
        go_wp2_with fail
        refine (strCmpV _ _ c _ HCZ.out).mono ?_
        rintro e w' ⟨rfl, rfl⟩
        go_wp2
        go_ret
        exact ⟨ret_int (HX.out ▸ ((lex_stop ss k hlt HZ.out).trans HCZ.out).symm), g_alloc hw _⟩
    · go_wp2
      go_ret
      exact ⟨ret_int (HX.out ▸ (lex_end ss k hlt).symm), hw⟩

/-- the order of objects -/
def cmpO (a b c d : ByteArray) : Int := lexS [(a, c), (b, d)]
/-- the order of goals, and of subjects -/
def cmpG (a b c d e f : ByteArray) : Int := lexS [(a, d), (b, e), (c, f)]

theorem compareFields2 (a b c d : ByteArray) (x : Nat) (w : World) (hx : x < w.heap.size)
    (h0 : w.cell? ⟨x, 0, none⟩ = some (.string a)) (h1 : w.cell? ⟨x, 1, none⟩ = some (.string c)) (h2 : w.cell? ⟨x, 2, none⟩ = some (.string b)) (h3 : w.cell? ⟨x, 3, none⟩ = some (.string d)) :
    Calls Try.prog 101 #[.slice (some ⟨x, 0, none⟩) 2 2] w fun e w' => e = .returned (.int .i64 (cmpO a b c d)) ∧ Below w.heap.size w w' :=
  compareFields_any [(a, c), (b, d)] x w (by simp) hx (fun k hk => match k, hk with | 0, _ => ⟨h0, h1⟩ | 1, _ => ⟨h2, h3⟩)
theorem compareFields3 (a b c d e f : ByteArray) (x : Nat) (w : World) (hx : x < w.heap.size)
    (h0 : w.cell? ⟨x, 0, none⟩ = some (.string a)) (h1 : w.cell? ⟨x, 1, none⟩ = some (.string d)) (h2 : w.cell? ⟨x, 2, none⟩ = some (.string b)) (h3 : w.cell? ⟨x, 3, none⟩ = some (.string e))
    (h4 : w.cell? ⟨x, 4, none⟩ = some (.string c)) (h5 : w.cell? ⟨x, 5, none⟩ = some (.string f)) :
    Calls Try.prog 101 #[.slice (some ⟨x, 0, none⟩) 3 3] w fun r w' => r = .returned (.int .i64 (cmpG a b c d e f)) ∧ Below w.heap.size w w' :=
  compareFields_any [(a, d), (b, e), (c, f)] x w (by simp) hx (fun k hk => match k, hk with | 0, _ => ⟨h0, h1⟩ | 1, _ => ⟨h2, h3⟩ | 2, _ => ⟨h4, h5⟩)

set_option maxHeartbeats 800000 in
theorem compareGoal_any (a b c d e f : ByteArray) (w : World) :
    Calls Try.prog 84 #[.agg #[.string a, .string b, .string c], .agg #[.string d, .string e, .string f]] w fun r w' => r = .returned (.int .i64 (cmpG a b c d e f)) ∧ Below w.heap.size w w' := by
  go_enter Try.func84, Try.ntmps84
  go_wp2_with fail
  refine (compareFields3 a b c d e f _ _ (by simp) (by go_simp) (by go_simp) (by go_simp) (by go_simp) (by go_simp) (by go_simp)).mono ?_
  rintro e w' ⟨rfl, hw⟩
  go_wp2
  go_ret
  exact ⟨rfl, g_trans (g_alloc (g_alloc (g_alloc g_refl _) _) _) hw⟩
set_option maxHeartbeats 800000 in
theorem compareSubject_any (a b c d e f : ByteArray) (w : World) :
    Calls Try.prog 78 #[.agg #[.string a, .string b, .string c], .agg #[.string d, .string e, .string f]] w fun r w' => r = .returned (.int .i64 (cmpG a b c d e f)) ∧ Below w.heap.size w w' := by
  go_enter Try.func78, Try.ntmps78
  go_wp2_with fail
  refine (compareFields3 a b c d e f _ _ (by simp) (by go_simp) (by go_simp) (by go_simp) (by go_simp) (by go_simp) (by go_simp)).mono ?_
  rintro e w' ⟨rfl, hw⟩
  go_wp2
  go_ret
  exact ⟨rfl, g_trans (g_alloc (g_alloc (g_alloc g_refl _) _) _) hw⟩

end Go.Proofs.Ytgfgfggoofjeeaa
