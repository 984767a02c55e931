/-
  THE CONTRACT of the reference's Span.
-/
import Derived.Test.YtgfgfggoofjeeaaFRef
namespace Go.Proofs.Ytgfgfggoofjeeaa
open Go.RowKit Go.Sort

/-- the tuple that a filter's fields are -/
def tupF (g : Fil) : Tup := ⟨g.a, g.b, g.c, g.d, g.e, g.f⟩
theorem sA_hit0 {n0 n1 k : Nat} (h1 : n0 = k) (h2 : k < n1) : sA n0 n1 k = -1 ∧ sA n0 n1 (k + 1) = k ∧ sB n0 n1 (k + 1) = ((k + 1 : Nat) : Int) := by
  refine ⟨(sA_neg (by omega)).1, ?_, ?_⟩
  · rw [(sA_pos (by omega)).1, h1]
  · rw [(sA_pos (by omega)).2]; omega
theorem sA_hit1 {n0 n1 k : Nat} (h1 : n0 < k) (h2 : k < n1) : sA n0 n1 k = n0 ∧ sA n0 n1 (k + 1) = n0 ∧ sB n0 n1 (k + 1) = ((k + 1 : Nat) : Int) := by
  refine ⟨(sA_pos (by omega)).1, ?_, ?_⟩
  · rw [(sA_pos (by omega)).1]
  · rw [(sA_pos (by omega)).2]; omega

end Go.Proofs.Ytgfgfggoofjeeaa
