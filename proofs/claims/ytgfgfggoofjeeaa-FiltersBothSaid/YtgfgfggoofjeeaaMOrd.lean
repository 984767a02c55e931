/-
  PLAIN FACTS: the order of goals is total, and 0 for equal ones alone.
-/
import Derived.Test.YtgfgfggoofjeeaaWROrd
namespace Go.Proofs.Ytgfgfggoofjeeaa
open Go.RowKit

theorem cmpL_range : ∀ l m : List UInt8, Lib.compareBytes l m = -1 ∨ Lib.compareBytes l m = 0 ∨ Lib.compareBytes l m = 1
  | [], [] => .inr (.inl rfl)
  | [], _ :: _ => .inl rfl
  | _ :: _, [] => .inr (.inr rfl)
  | x :: l, y :: m => by
    unfold Lib.compareBytes
    by_cases h1 : x < y
    · rw [if_pos h1]; exact .inl rfl
    · rw [if_neg h1]
      by_cases h2 : y < x
      · rw [if_pos h2]; exact .inr (.inr rfl)
      · rw [if_neg h2]; exact cmpL_range l m
theorem cmpL_anti : ∀ l m : List UInt8, Lib.compareBytes m l = -Lib.compareBytes l m
  | [], [] => rfl
  | [], _ :: _ => rfl
  | _ :: _, [] => rfl
  | x :: l, y :: m => by
    unfold Lib.compareBytes
    by_cases h1 : x < y
    · have h2 : ¬ y < x := by rw [UInt8.lt_iff_toNat_lt] at *; omega
      rw [if_pos h1, if_neg h2, if_pos h1]; rfl
    · by_cases h2 : y < x
      · rw [if_pos h2, if_neg h1, if_pos h2]
      · rw [if_neg h2, if_neg h1, if_neg h1, if_neg h2]; exact cmpL_anti l m
theorem cmpL_trans : ∀ l m n : List UInt8, Lib.compareBytes l m ≤ 0 → Lib.compareBytes m n ≤ 0 → Lib.compareBytes l n ≤ 0
  | [], _, [], _, _ => by simp [Lib.compareBytes]
  | [], _, _ :: _, _, _ => by simp [Lib.compareBytes]
  | _ :: _, [], _, h, _ => by simp [Lib.compareBytes] at h
  | _ :: _, _ :: _, [], _, h => by simp [Lib.compareBytes] at h
  | x :: l, y :: m, z :: n, h, k => by
    unfold Lib.compareBytes at h k ⊢
    by_cases h1 : x < y
    · by_cases k1 : y < z
      · rw [if_pos (by rw [UInt8.lt_iff_toNat_lt] at *; omega)]; omega
      · rw [if_neg k1] at k
        by_cases k2 : z < y
        · rw [if_pos k2] at k; omega
        · rw [if_pos (by rw [UInt8.lt_iff_toNat_lt] at *; omega)]; omega
    · rw [if_neg h1] at h
      by_cases h2 : y < x
      · rw [if_pos h2] at h; omega
      · rw [if_neg h2] at h
        by_cases k1 : y < z
        · rw [if_pos (by rw [UInt8.lt_iff_toNat_lt] at *; omega)]; omega
        · rw [if_neg k1] at k
          by_cases k2 : z < y
          · rw [if_pos k2] at k; omega
          · rw [if_neg k2] at k
            rw [if_neg (by rw [UInt8.lt_iff_toNat_lt] at *; omega), if_neg (by rw [UInt8.lt_iff_toNat_lt] at *; omega)]
            exact cmpL_trans l m n h k

theorem cmpS_range (a b : ByteArray) : cmpS a b = -1 ∨ cmpS a b = 0 ∨ cmpS a b = 1 := cmpL_range _ _
theorem cmpS_anti (a b : ByteArray) : cmpS b a = -cmpS a b := cmpL_anti _ _
theorem cmpS_trans {a b c : ByteArray} (h : cmpS a b ≤ 0) (k : cmpS b c ≤ 0) : cmpS a c ≤ 0 := cmpL_trans _ _ _ h k

theorem cmpG_range (a b c d e f : ByteArray) : -1 ≤ cmpG a b c d e f ∧ cmpG a b c d e f ≤ 1 := by
  rw [cmpG_full]
  have h1 := cmpS_range a d; have h2 := cmpS_range b e; have h3 := cmpS_range c f
  split <;> (try split) <;> (try split) <;> omega
theorem cmpG_anti (a b c d e f : ByteArray) : cmpG d e f a b c = -cmpG a b c d e f := by
  rw [cmpG_full, cmpG_full, cmpS_anti a d, cmpS_anti b e, cmpS_anti c f]
  by_cases h1 : cmpS a d = 0
  · by_cases h2 : cmpS b e = 0
    · by_cases h3 : cmpS c f = 0
      · simp [h1, h2, h3]
      · simp [h1, h2, h3]
    · simp [h1, h2]
  · simp [h1]
theorem cmpG_self (a b c : ByteArray) : cmpG a b c a b c = 0 := by
  rw [cmpG_full]; simp [cmpS_self]
theorem cmpG_zero {a b c d e f : ByteArray} (h : cmpG a b c d e f = 0) : a = d ∧ b = e ∧ c = f := by
  rw [cmpG_full] at h
  by_cases h1 : cmpS a d = 0
  · by_cases h2 : cmpS b e = 0
    · by_cases h3 : cmpS c f = 0
      · exact ⟨cmpS_zero h1, cmpS_zero h2, cmpS_zero h3⟩
      · simp [h1, h2, h3] at h
    · simp [h1, h2] at h
  · simp [h1] at h
/-- a chain of two in one field -/
theorem chain {a b c : ByteArray} (h : cmpS a b ≤ 0) (k : cmpS b c ≤ 0) : cmpS a c ≤ 0 ∧ (cmpS a c = 0 → cmpS a b = 0 ∧ cmpS b c = 0) := by
  refine ⟨cmpS_trans h k, fun e => ?_⟩
  obtain rfl := cmpS_zero e
  have := cmpS_anti a b
  omega
theorem cmpG_trans {a b c d e f x y z : ByteArray} (h : cmpG a b c d e f ≤ 0) (k : cmpG d e f x y z ≤ 0) : cmpG a b c x y z ≤ 0 := by
  rw [cmpG_full] at h k ⊢
  have p1 : cmpS a d ≤ 0 := by split at h <;> omega
  have k1 : cmpS d x ≤ 0 := by split at k <;> omega
  have t1 := chain p1 k1
  by_cases e1 : cmpS a x = 0
  · obtain ⟨z1, z2⟩ := t1.2 e1
    rw [if_pos z1] at h; rw [if_pos z2] at k; rw [if_pos e1]
    have p2 : cmpS b e ≤ 0 := by split at h <;> omega
    have k2 : cmpS e y ≤ 0 := by split at k <;> omega
    have t2 := chain p2 k2
    by_cases e2 : cmpS b y = 0
    · obtain ⟨z3, z4⟩ := t2.2 e2
      rw [if_pos z3] at h; rw [if_pos z4] at k; rw [if_pos e2]
      have p3 : cmpS c f ≤ 0 := by split at h <;> omega
      have k3 : cmpS f z ≤ 0 := by split at k <;> omega
      have t3 := chain p3 k3
      split <;> omega
    · rw [if_neg e2]; omega
  · rw [if_neg e1]; omega

end Go.Proofs.Ytgfgfggoofjeeaa
