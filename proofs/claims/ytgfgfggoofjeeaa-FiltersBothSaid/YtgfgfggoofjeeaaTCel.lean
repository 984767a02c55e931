/-
  A TUPLE IN A BLOCK of its own.
-/
import Derived.Test.YtgfgfggoofjeeaaTGrew
namespace Go.Proofs.Ytgfgfggoofjeeaa
open Go.RowKit

/-- a tuple lies in a block of its own -/
def Tc (w : World) (b : Nat) (x : Tup) : Prop :=
  w.cell? ⟨b, 0, none⟩ = some (.string x.a) ∧ w.cell? ⟨b, 1, none⟩ = some (.string x.b) ∧ w.cell? ⟨b, 2, none⟩ = some (.string x.c) ∧ w.cell? ⟨b, 3, none⟩ = some (.string x.d) ∧ w.cell? ⟨b, 4, none⟩ = some (.string x.e) ∧ w.cell? ⟨b, 5, none⟩ = some (.string x.f) ∧ b < w.heap.size
theorem Tc.keep {w w' : World} {b : Nat} {x : Tup} (h : Tc w b x) (hb : Below w.heap.size w w') : Tc w' b x := by
  obtain ⟨h0, h1, h2, h3, h4, h5, h6⟩ := h
  exact ⟨(own_cells hb _ h6 _).1.trans h0, (own_cells hb _ h6 _).1.trans h1, (own_cells hb _ h6 _).1.trans h2, (own_cells hb _ h6 _).1.trans h3, (own_cells hb _ h6 _).1.trans h4, (own_cells hb _ h6 _).1.trans h5, Nat.lt_of_lt_of_le h6 hb.size⟩
end Go.Proofs.Ytgfgfggoofjeeaa
