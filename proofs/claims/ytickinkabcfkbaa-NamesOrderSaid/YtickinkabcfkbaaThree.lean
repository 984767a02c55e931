/-
  AN ARRAY OF THREE STRINGS BY VALUE, as data: taken apart, and put together.
-/
import Derived.ProofKit
import Derived.OpenShut
import Derived.ShutString
import Derived.Laws.IdiomArrays
namespace Go.Proofs.Ytickinkabcfkbaa
open Go.ChangeShapes Go.WideShapes Go.ChangeAt Go.RowKit
variable {H : Type} {enc : TypeId × Value → H} {P : Program} {w : World} {base : Nat} {spare : Nat → Bool} {held : Bool}

theorem open_three {t e : TypeId} {r : Reach} {b0 : Nat} {v : Value} {d : DataW H} {p : List MemPlace} (ht : P.underlying t = some (.array 3 e)) (hc : P.cellsOf t = 3) (hce : P.cellsOf e = 1) (he : P.underlying e = some .string)
    (hv : Value.okWide P w r b0 t v) (h : DataW.Trod enc P w base spare held t v d p) :
    ∃ x y z : ByteArray, v = .agg #[.string x, .string y, .string z] ∧ d = .agg [.lit (.string x.data.toList), .lit (.string y.data.toList), .lit (.string z.data.toList)] ∧ p = [] ∧ x.size ≤ maxLen ∧ y.size ≤ maxLen ∧ z.size ≤ maxLen := by
  obtain ⟨cs, rfl, hsz, _⟩ : ∃ cs, v = .agg cs ∧ cs.size = P.cellsOf t ∧ Row.okWide P w r b0 t cs := by
    simpa [Value.okWide, ht] using hv
  rw [hc] at hsz
  obtain ⟨l⟩ := cs
  match l, hsz with
  | [c0, c1, c2], _ =>
    obtain ⟨fuel, hf⟩ := h
    obtain ⟨y0, y1, y2, m, hx, hy0, hy1, hy2⟩ := trod_array3 ht hce hf
    obtain ⟨x0, e0, rfl, w0⟩ := DataW.trod_string he hy0
    obtain ⟨x1, e1, rfl, w1⟩ := DataW.trod_string he hy1
    obtain ⟨x2, e2, rfl, w2⟩ := DataW.trod_string he hy2
    simp only [List.cons.injEq, and_true] at e0 e1 e2
    subst e0 e1 e2
    simp only [Prod.mk.injEq] at hx
    exact ⟨x0, x1, x2, rfl, hx.1, hx.2, w0, w1, w2⟩

theorem shut_three {t e : TypeId} {x y z : ByteArray} (ht : P.underlying t = some (.array 3 e)) (hc : P.cellsOf t = 3) (hce : P.cellsOf e = 1) (he : P.underlying e = some .string) (hx : x.size ≤ maxLen) (hy : y.size ≤ maxLen) (hz : z.size ≤ maxLen) :
    DataW.Trod enc P w base spare held t (.agg #[.string x, .string y, .string z]) (.agg [.lit (.string x.data.toList), .lit (.string y.data.toList), .lit (.string z.data.toList)]) [] :=
  ⟨2, by simp [DataW.trod, Value.cells, ht, hc, hce, he, hx, hy, hz, show List.range 3 = [0, 1, 2] from rfl]⟩

end Go.Proofs.Ytickinkabcfkbaa
