/-
  A VALUE V OF LAYER 4's LAW AS AN ARGUMENT, taken apart.
-/
import Derived.Test.YtohnhjmiblgkkaaCArg
namespace Go.Proofs.Ytohnhjmiblgkkaa
open Go.ChangeShapes Go.WideShapes Go.ChangeAt Go.RowKit
variable {H : Type} {enc : TypeId × Value → H} {w : World} {base : Nat} {spare : Nat → Bool} {held : Bool}

theorem u64_nat {n : Int} (h : (Lit.int .u64 n).wf = true) : n = (n.toNat : Int) ∧ n.toNat < 18446744073709551616 := by
  simp [Lit.wf, IntKind.min, IntKind.max, IntKind.signed, IntKind.bits] at h
  omega
theorem vTypes : ∃ m0 m1 m2 : Field, Try.prog.underlying 31 = some (.struct #[m0, m1, m2]) ∧ (m0.type = 5 ∧ m1.type = 28 ∧ m2.type = 29) ∧ (m0.offset = 0 ∧ m1.offset = 1 ∧ m2.offset = 2) :=
  ⟨_, _, _, Try.underlying31, ⟨rfl, rfl, rfl⟩, ⟨rfl, rfl, rfl⟩⟩
theorem cellsV : Try.prog.cellsOf 31 = 8 := by kernel_rfl
theorem cellsS6 : Try.prog.cellsOf 29 = 6 := by kernel_rfl
theorem cellsS1 : Try.prog.cellsOf 9 = 1 := by kernel_rfl
theorem cellsU8 : Try.prog.cellsOf 5 = 1 := by kernel_rfl
theorem cellsU64 : Try.prog.cellsOf 28 = 1 := by kernel_rfl
set_option maxRecDepth 20000 in
theorem open_v {r : Reach} {b0 : Nat} {v : Value} {d : DataW H} {p : List MemPlace} (hv : Value.okWide Try.prog w r b0 31 v) (h : DataW.Trod enc Try.prog w base spare held 31 v d p) :
    ∃ (K n : Nat) (a b c d e f : ByteArray), v = .agg #[.int .u8 (K : Int), .int .u64 (n : Int), .string a, .string b, .string c, .string d, .string e, .string f] ∧ K < 256 ∧ n < 18446744073709551616 := by
  obtain ⟨m0, m1, m2, hu, ⟨t0, t1, t2⟩, o0, o1, o2⟩ := vTypes
  obtain ⟨cs, rfl, hsz⟩ := okWide_struct hu hv
  obtain ⟨l⟩ := cs
  match l, hsz.trans cellsV with
  | [v0, v1, v2, v3, v4, v5, v6, v7], _ =>
    obtain ⟨fuel, hf⟩ := h
    obtain ⟨xs, k, _, _, _, hxl, hxs⟩ := DataW.trod_struct hu (cs := [v0, v1, v2, v3, v4, v5, v6, v7]) (by simpa [Value.cells] using hf)
    have h0 := hxs 0 m0 rfl
    have h1 := hxs 1 m1 rfl
    have h2 := hxs 2 m2 rfl
    rw [t0, o0, cellsU8] at h0
    rw [t1, o1, cellsU64] at h1
    rw [t2, o2, cellsS6] at h2
    match xs, hxl with
    | [y0, y1, y2], _ =>
      obtain ⟨n0, e0, -, w0⟩ := DataW.trod_int (cs := [v0]) Try.underlying5 (by simpa using h0)
      obtain ⟨n1, e1, -, w1⟩ := DataW.trod_int (cs := [v1]) Try.underlying28 (by simpa using h1)
      simp only [List.cons.injEq, and_true] at e0 e1
      obtain ⟨k0, l0⟩ := u8_nat w0
      obtain ⟨k1, l1⟩ := u64_nat w1
      obtain ⟨zs, k', _, _, _, hzl, hzs⟩ := DataW.trod_array Try.underlying29 (cs := [v2, v3, v4, v5, v6, v7]) (by simpa using h2)
      have q0 := hzs 0 (by decide); have q1 := hzs 1 (by decide); have q2 := hzs 2 (by decide); have q3 := hzs 3 (by decide); have q4 := hzs 4 (by decide); have q5 := hzs 5 (by decide)
      rw [cellsS1] at q0 q1 q2 q3 q4 q5
      match zs, hzl with
      | [z0, z1, z2, z3, z4, z5], _ =>
        obtain ⟨a, ea, -, _⟩ := DataW.trod_string (cs := [v2]) Try.underlying9 (by simpa using q0)
        obtain ⟨b, eb, -, _⟩ := DataW.trod_string (cs := [v3]) Try.underlying9 (by simpa using q1)
        obtain ⟨c, ec, -, _⟩ := DataW.trod_string (cs := [v4]) Try.underlying9 (by simpa using q2)
        obtain ⟨d', ed, -, _⟩ := DataW.trod_string (cs := [v5]) Try.underlying9 (by simpa using q3)
        obtain ⟨e, ee, -, _⟩ := DataW.trod_string (cs := [v6]) Try.underlying9 (by simpa using q4)
        obtain ⟨f, ef, -, _⟩ := DataW.trod_string (cs := [v7]) Try.underlying9 (by simpa using q5)
        simp only [List.cons.injEq, and_true] at ea eb ec ed ee ef
        exact ⟨n0.toNat, n1.toNat, a, b, c, d', e, f, by rw [e0, e1, ea, eb, ec, ed, ee, ef, ← k0, ← k1], l0, l1⟩
end Go.Proofs.Ytohnhjmiblgkkaa
