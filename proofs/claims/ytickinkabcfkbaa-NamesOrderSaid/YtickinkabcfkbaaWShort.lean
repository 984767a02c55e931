/-
  THE CONTRACT of short: are all strings of at most 40 bytes?
-/
import Derived.Test.YtickinkabcfkbaaWAll
namespace Go.Proofs.Ytickinkabcfkbaa
open Go.RowKit

/-- is a string of at most 40 bytes? -/
def sh (s : ByteArray) : Bool := decide (s.size ≤ 40)
theorem sh_step (ss : List ByteArray) (k : Nat) (h : k < ss.length) (ha : (ss.take k).all sh = true) (hb : ss[k].size ≤ 40) : (ss.take (k + 1)).all sh = true := by
  rw [List.take_succ_eq_append_getElem h, List.all_append, ha]; simp [sh, hb]
theorem sh_end (ss : List ByteArray) (k : Nat) (h : ¬ k < ss.length) (ha : (ss.take k).all sh = true) : ss.all sh = true := by
  rwa [List.take_of_length_le (by omega)] at ha
theorem sh_bad (ss : List ByteArray) (k : Nat) (h : k < ss.length) (hb : ¬ ss[k].size ≤ 40) : ss.all sh = false := by
  rw [List.all_eq_false]; exact ⟨ss[k], List.getElem_mem h, by simp [sh]; omega⟩
theorem ret_bool {a b : Bool} (h : a = b) : Ending.returned (.bool a) = .returned (.bool b) := by rw [h]

set_option maxHeartbeats 400000 in
theorem short_any (ss : List ByteArray) (b : Nat) (w : World) (hn : ss.length ≤ 100) (hs : ∀ k, (h : k < ss.length) → ss[k].size ≤ maxLen)
    (hc : ∀ k, (h : k < ss.length) → w.cell? ⟨b, k, none⟩ = some (.string ss[k])) :
    Calls Try.prog 7 #[.slice (some ⟨b, 0, none⟩) ss.length ss.length] w fun e w' => e = .returned (.bool (ss.all sh)) ∧ w = w' := by
  have HC := hid hc; clear hc
  have HS := hid hs; clear hs
  go_enter Try.func7, Try.ntmps7
  go_wp2
  go_loop [3] (fun i => ∃ k : Nat, k ≤ ss.length ∧ i = .int .i64 k ∧ (ss.take k).all sh = true) (fun i => ss.length - (intOf i).toNat)
  case atStart => exact ⟨0, Nat.zero_le _, rfl, rfl⟩
  case round =>
    obtain ⟨k, hk, rfl, ha⟩ := hrel
    have HA := hid ha; clear ha
    by_cases hlt : k < ss.length
    · have hcell := HC.out k hlt
      have hss := HS.out k hlt
      unfold maxLen at hss
      by_cases h40 : ss[k].size ≤ 40
      · go_wp2
        go_round
        case rel => exact ⟨k + 1, by omega, by go_num, sh_step ss k hlt HA.out h40⟩
        case measure => simp [intOf]; omega
      · go_wp2
        go_ret
        exact ⟨ret_bool (sh_bad ss k hlt h40).symm, rfl⟩
    · go_wp2
      go_ret
      exact ⟨ret_bool (sh_end ss k hlt HA.out).symm, rfl⟩

end Go.Proofs.Ytickinkabcfkbaa
