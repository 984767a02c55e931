/-
  TWO NUMBERS that came in as an array: opened as plain data.
-/
import Derived.Test.YthkceffnfhdjhaaDArg
namespace Go.Proofs.Ythkceffnfhdjhaa
open Go.ChangeShapes Go.WideShapes Go.ChangeAt Go.RowKit Go.Deep
section
variable {H : Type} {enc : TypeId × Value → H} {w : World} {base : Nat} {spare : Nat → Bool} {held : Bool}
theorem i64_rng {n : Int} (h : (Lit.int .i64 n).wf = true) : -9223372036854775808 ≤ n ∧ n ≤ 9223372036854775807 := by
  simp [Lit.wf, IntKind.min, IntKind.max, IntKind.signed, IntKind.bits] at h
  omega
theorem open_zs {P : Program} {e b : TypeId} (he : P.underlying e = some (.array 2 b)) (hc : P.cellsOf e = 2) (hi : P.cellsOf b = 1) (hb : P.underlying b = some (.int .i64)) {r : Reach} {b0 : Nat} {v : Value} {d : DataW H} {p : List MemPlace} (hv : Value.okWide P w r b0 e v) (h : DataW.Trod enc P w base spare held e v d p) :
    ∃ z0 z1 : Int, v = .agg #[.int .i64 z0, .int .i64 z1] ∧ (-9223372036854775808 ≤ z0 ∧ z0 ≤ 9223372036854775807) ∧ (-9223372036854775808 ≤ z1 ∧ z1 ≤ 9223372036854775807) := by
  obtain ⟨cs, rfl, hsz, _⟩ : ∃ cs, v = .agg cs ∧ cs.size = P.cellsOf e ∧ Row.okWide P w r b0 e cs := by
    simpa [Value.okWide, he] using hv
  rw [hc] at hsz
  obtain ⟨l⟩ := cs
  match l, hsz with
  | [c0, c1], _ =>
    obtain ⟨fuel, hf⟩ := h
    obtain ⟨xs, m, _, _, _, hxl, hxs⟩ := DataW.trod_array he hf
    have h0 := hxs 0 (by decide)
    have h1 := hxs 1 (by decide)
    rw [hi] at h0 h1
    match xs, hxl with
    | [y0, y1], _ =>
      obtain ⟨n0, e0, -, w0⟩ := DataW.trod_int (cs := [c0]) hb (by simpa [Value.cells] using h0)
      obtain ⟨n1, e1, -, w1⟩ := DataW.trod_int (cs := [c1]) hb (by simpa [Value.cells] using h1)
      simp only [List.cons.injEq, and_true] at e0 e1
      subst e0 e1
      exact ⟨n0, n1, rfl, i64_rng w0, i64_rng w1⟩
end
end Go.Proofs.Ythkceffnfhdjhaa
