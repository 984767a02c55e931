/-
  THE CONTRACTS of the law's order, halves, odd.
-/
import Derived.Test.YthkceffnfhdjhaaDIList
import Derived.Test.YthkceffnfhdjhaaDSList
namespace Go.Proofs.Ythkceffnfhdjhaa
open Go.RowKit Go.Deep

set_option maxHeartbeats 400000 in
theorem order_any (x y : Int) (w : World) : Calls Try.prog 9 #[.int .i64 x, .int .i64 y] w fun e w' => e = .returned (.int .i64 (Tr.ordI x y)) ∧ w' = w := by
  unfold Tr.ordI
  by_cases h1 : x < y
  · rw [if_pos h1]
    go_enter Try.func9, Try.ntmps9
    go_wp2
    go_ret
    exact ⟨rfl, rfl⟩
  · by_cases h2 : y < x
    · rw [if_neg h1, if_pos h2]
      have h1' : decide (x < y) = false := by simp; omega
      have h2' : decide (y < x) = true := by simp; omega
      clear h1 h2
      go_enter Try.func9, Try.ntmps9
      go_wp2
      go_ret
      exact ⟨rfl, rfl⟩
    · rw [if_neg h1, if_neg h2]
      have h1' : decide (x < y) = false := by simp; omega
      have h2' : decide (y < x) = false := by simp; omega
      clear h1 h2
      go_enter Try.func9, Try.ntmps9
      go_wp2
      go_ret
      exact ⟨rfl, rfl⟩
theorem iOrd : DI.Ord 9 Tr.ordI := ⟨fun x y W => by kernel_rfl, order_any⟩
theorem sOrd : DS.Ord 9 Tr.ordI := ⟨fun x y W => by kernel_rfl, order_any⟩
end Go.Proofs.Ythkceffnfhdjhaa
