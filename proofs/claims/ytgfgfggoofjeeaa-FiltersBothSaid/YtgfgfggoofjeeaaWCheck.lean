/-
  THE CONTRACTS of names.Check and of the reference's Check: both give 'chk' of the string's bytes, and leave the world.
-/
import Derived.Test.YtgfgfggoofjeeaaRows
import Derived.Test.YtgfgfggoofjeeaaPlain
import Derived.WalkKit
import Derived.WalkSpells
import Derived.WalkLawsBesides
import Derived.LoopTactic
import Derived.Outline
namespace Go.Proofs.Ytgfgfggoofjeeaa
open Go.RowKit

set_option maxHeartbeats 400000 in
theorem check_long (s : ByteArray) (w : World) (hs : s.size ≤ maxLen) (h : s.size < 1 ∨ 16 < s.size) :
    Calls Try.prog 65 #[.string s] w fun e w' => e = .returned (.int .i64 (chk s.data.toList)) ∧ w = w' := by
  unfold maxLen at hs
  rw [chk_long s h]
  rcases h with h | h
  all_goals
    go_enter Try.func65, Try.ntmps65
    go_wp2
    go_ret
    exact ⟨rfl, rfl⟩

set_option maxHeartbeats 400000 in
theorem check_short (s : ByteArray) (w : World) (h1 : 1 ≤ s.size) (h2 : s.size ≤ 16) :
    Calls Try.prog 65 #[.string s] w fun e w' => e = .returned (.int .i64 (chk s.data.toList)) ∧ w = w' := by
  go_enter Try.func65, Try.ntmps65
  go_wp2
  go_loop [15] (fun i => ∃ k : Nat, k ≤ s.size ∧ i = .int .i64 k ∧ (s.data.toList.take k).all nameByte = true) (fun i => s.size - (intOf i).toNat)
  case atStart => exact ⟨0, Nat.zero_le _, rfl, rfl⟩
  case round =>
    obtain ⟨k, hk, rfl, ha⟩ := hrel
    have HA := hid ha; clear ha
    by_cases hlt : k < s.size
    · go_wp2
      all_goals first
        | (go_ret
           exact ⟨ret_int (chk_bad s k hlt (nb_false _ (by omega))).symm, rfl⟩)
        | (go_round
           case rel => exact ⟨k + 1, by omega, by go_num, all_snoc s k hlt HA.out (nb_true _ (by omega))⟩
           case measure => simp [intOf]; omega)
    · go_wp2
      go_ret
      exact ⟨ret_int (chk_good s h1 h2 (by have := HA.out; rwa [show k = s.size by omega] at this)).symm, rfl⟩

theorem check_any (s : ByteArray) (w : World) (hs : s.size ≤ maxLen) :
    Calls Try.prog 65 #[.string s] w fun e w' => e = .returned (.int .i64 (chk s.data.toList)) ∧ w = w' := by
  by_cases h : 1 ≤ s.size ∧ s.size ≤ 16
  · exact check_short s w h.1 h.2
  · exact check_long s w hs (by omega)

/-- what the reference's loop keeps -/
def RC (s : ByteArray) (k : Nat) (b : Bool) : Prop := k ≤ s.size ∧ (b = true → 1 ≤ s.size ∧ s.size ≤ 16 ∧ (s.data.toList.take k).all nameByte = true) ∧ (b = false → chk s.data.toList = 6)

theorem RC_step (s : ByteArray) (k : Nat) (b : Bool) (hlt : k < s.size) (h : RC s k true)
    (hb : b = true ↔ (97 ≤ (s[k].toNat : Int) ∧ (s[k].toNat : Int) ≤ 122) ∨ (48 ≤ (s[k].toNat : Int) ∧ (s[k].toNat : Int) ≤ 57)) : RC s (k + 1) b := by
  obtain ⟨h1, h2, h3⟩ := h.2.1 rfl
  refine ⟨hlt, fun e => ⟨h1, h2, all_snoc s k hlt h3 (nb_true _ (hb.1 e))⟩, fun e => chk_bad s k hlt (nb_false _ (fun x => ?_))⟩
  rw [hb.2 x] at e; cases e

set_option maxHeartbeats 400000 in
theorem rcheck_any (s : ByteArray) (w : World) (hs : s.size ≤ maxLen) :
    Calls Try.prog 36 #[.string s] w fun e w' => e = .returned (.int .i64 (chk s.data.toList)) ∧ w = w' := by
  unfold maxLen at hs
  have HI : Hid (∀ b : Bool, (b = true ↔ 1 ≤ s.size ∧ s.size ≤ 16) → RC s 0 b) := fun b hb => ⟨Nat.zero_le _, fun h => ⟨(hb.1 h).1, (hb.1 h).2, rfl⟩, fun h => chk_long s (by
    rw [h] at hb; simp at hb; omega)⟩
  by_cases h0 : 0 < s.size
  all_goals
    go_enter Try.func36, Try.ntmps36
    go_wp2
    go_loop [3, 4] (fun ok i => ∃ (k : Nat) (b : Bool), i = .int .i64 k ∧ ok = .bool b ∧ RC s k b) (fun _ i => s.size - (intOf i).toNat)
    case atStart => exact ⟨0, _, rfl, rfl, HI.out _ (by simp; omega)⟩
    case round =>
      obtain ⟨k, b, rfl, rfl, hr⟩ := hrel
      have HR := hid hr
      have hk := hr.1
      clear hr HI
      by_cases hlt : k < s.size
      · cases b
        · go_wp2
          go_ret
          exact ⟨ret_int (HR.out.2.2 rfl).symm, rfl⟩
        · go_wp2
          all_goals
            go_round
            case rel => exact ⟨k + 1, _, by go_num, rfl, RC_step s k _ hlt HR.out (by simp; omega)⟩
            case measure => simp [intOf]; omega
      · cases b
        · go_wp2
          go_ret
          exact ⟨ret_int (HR.out.2.2 rfl).symm, rfl⟩
        · go_wp2
          go_ret
          exact ⟨ret_int (chk_good s (HR.out.2.1 rfl).1 (HR.out.2.1 rfl).2.1 (by have := (HR.out.2.1 rfl).2.2; rwa [show k = s.size by omega] at this)).symm, rfl⟩

end Go.Proofs.Ytgfgfggoofjeeaa
