/-
  ARGUMENTS AS DATA: a list of pairs of bytes in a struct, and a pair of bytes by value, taken apart.
-/
import Derived.Test.YtgfgfggoofjeeaaTOf
import Derived.ProofKit
import Derived.OpenShut
import Derived.ChangeSame
import Derived.Carry
import Derived.Deep.Slices
import Derived.Deep.RegionHeld
namespace Go.Proofs.Ytgfgfggoofjeeaa
open Go.ChangeShapes Go.WideShapes Go.ChangeAt Go.RowKit Go.Deep
variable {H : Type} {enc : TypeId × Value → H} {P : Program} {w : World} {base : Nat} {spare : Nat → Bool} {held : Bool}

theorem u8_nat {n : Int} (h : (Lit.int .u8 n).wf = true) : n = (n.toNat : Int) ∧ n.toNat < 256 := by
  simp [Lit.wf, IntKind.min, IntKind.max, IntKind.signed, IntKind.bits] at h
  omega
/-- two bytes of an array -/
theorem trod_two {e b : TypeId} {fuel : Nat} {u v : Value} {x : DataW H × List MemPlace} (he : P.underlying e = some (.array 2 b)) (cB : P.cellsOf b = 1) (hb : P.underlying b = some (.int .u8)) (h : DataW.trod enc P w base spare held fuel e [u, v] = some x) :
    ∃ p q : Nat, u = .int .u8 p ∧ v = .int .u8 q ∧ p < 256 ∧ q < 256 := by
  obtain ⟨xs, m', _, _, _, hxl, hxs⟩ := DataW.trod_array he h
  have h0 := hxs 0 (by decide)
  have h1 := hxs 1 (by decide)
  rw [cB] at h0 h1
  match xs, hxl with
  | [y0, y1], _ =>
    obtain ⟨n0, e0, -, w0⟩ := DataW.trod_int (cs := [u]) hb (by simpa using h0)
    obtain ⟨n1, e1, -, w1⟩ := DataW.trod_int (cs := [v]) hb (by simpa using h1)
    simp only [List.cons.injEq, and_true] at e0 e1
    obtain ⟨k0, l0⟩ := u8_nat w0
    obtain ⟨k1, l1⟩ := u8_nat w1
    exact ⟨n0.toNat, n1.toNat, by rw [e0, ← k0], by rw [e1, ← k1], l0, l1⟩
/-- a pair of bytes by value -/
theorem open_two {e b : TypeId} {r : Reach} {b0 : Nat} {v : Value} {d : DataW H} {p : List MemPlace} (he : P.underlying e = some (.array 2 b)) (cE : P.cellsOf e = 2) (cB : P.cellsOf b = 1) (hb : P.underlying b = some (.int .u8))
    (hv : Value.okWide P w r b0 e v) (h : DataW.Trod enc P w base spare held e v d p) :
    ∃ x y : Nat, v = .agg #[.int .u8 x, .int .u8 y] ∧ x < 256 ∧ y < 256 := by
  obtain ⟨cs, rfl, hsz, _⟩ : ∃ cs, v = .agg cs ∧ cs.size = P.cellsOf e ∧ Row.okWide P w r b0 e cs := by
    simpa [Value.okWide, he] using hv
  rw [cE] at hsz
  obtain ⟨l⟩ := cs
  match l, hsz with
  | [c0, c1], _ =>
    obtain ⟨fuel, hf⟩ := h
    obtain ⟨x, y, rfl, rfl, hx, hy⟩ := trod_two he cB hb (u := c0) (v := c1) (by simpa [Value.cells] using hf)
    exact ⟨x, y, rfl, hx, hy⟩
/-- the number in a cell -/
def cellN (w : World) (a : Addr) : Nat :=
  match w.cell? a with
  | some (.int _ n) => n.toNat
  | _ => 0
theorem cellN_of {w : World} {a : Addr} {n : Nat} (h : w.cell? a = some (.int .u8 n)) : cellN w a = n := by unfold cellN; rw [h]; simp
theorem addr_none {w : World} {a : Addr} {u : Value} (h : w.cell? (a.add 0) = some u) : a = ⟨a.block, a.off, none⟩ := by
  obtain ⟨b, o, s⟩ := a
  rw [show (⟨b, o, s⟩ : Addr).add 0 = ⟨b, o, s⟩ from rfl] at h
  cases s with
  | none => rfl
  | some k =>
    exfalso
    unfold World.cell? at h
    split at h <;> simp at h
theorem add_plain (b o k : Nat) : (⟨b, o, none⟩ : Addr).add k = ⟨b, o + k, none⟩ := by
  unfold Addr.add
  by_cases h : k = 0
  · subst h; rfl
  · rw [if_neg h]
theorem open_pairs {t s e b : TypeId} {f0 : Field} {r : Reach} {b0 : Nat} {v : Value} {d : DataW H} {p : List MemPlace} (ht : P.underlying t = some (.struct #[f0])) (hft : f0.type = s) (ho : f0.offset = 0) (cT : P.cellsOf t = 1) (cS : P.cellsOf s = 1) (hs : P.underlying s = some (.slice e))
    (he : P.underlying e = some (.array 2 b)) (cE : P.cellsOf e = 2) (cB : P.cellsOf b = 1) (hb : P.underlying b = some (.int .u8))
    (hv : Value.okWide P w r b0 t v) (h : DataW.Trod enc P w base spare held t v d p) :
    ∃ A x c, v = .agg #[.slice A x.length c] ∧ x.length ≤ maxLen ∧ RowN w A x := by
  obtain ⟨cs, rfl, hsz⟩ := okWide_struct ht hv
  obtain ⟨l⟩ := cs
  match l, hsz.trans cT with
  | [c0], _ =>
    obtain ⟨fuel, hf⟩ := h
    obtain ⟨y0, n, _, _, h0⟩ := trod_struct1 ht hf
    rw [hft, ho, cS] at h0
    have h0' : DataW.trod enc P w base spare held n s [c0] = some y0 := by simpa [Value.cells] using h0
    rcases open_slice hs h0' with ⟨hc, -⟩ | ⟨a, len, cap, m, k, D, Pl, hc, hbase, hle, hcap, hm, -, hel⟩
    · simp only [List.cons.injEq, and_true] at hc
      subst hc
      exact ⟨none, [], 0, rfl, Nat.zero_le _, fun h => absurd rfl h⟩
    · simp only [List.cons.injEq, and_true] at hc
      subst hc
      have hml : len ≤ m := by rw [hm]; split <;> omega
      have key : ∀ i, i < len → ∃ p q : Nat, w.cell? (a.add (i * 2)) = some (.int .u8 p) ∧ w.cell? (a.add (i * 2 + 1)) = some (.int .u8 q) ∧ p < 256 ∧ q < 256 := fun i hi => by
        obtain ⟨cs', hcells, htr⟩ := hel i (by omega)
        rw [cE] at hcells
        obtain ⟨_, hlen, hcell⟩ := World.cells?_some hcells
        match cs', hlen with
        | [u, v], _ =>
          obtain ⟨p, q, rfl, rfl, hp, hq⟩ := trod_two he cB hb htr
          have k0 := hcell 0 (by decide)
          have k1 := hcell 1 (by decide)
          rw [Addr.add_add] at k0 k1
          exact ⟨p, q, by simpa using k0, by simpa using k1, hp, hq⟩
      refine ⟨some a, (List.range len).map fun i => (cellN w (a.add (i * 2)), cellN w (a.add (i * 2 + 1))), cap, by simp, by simp; omega, fun hne => ?_⟩
      have hlen : 0 < len := by
        rcases Nat.eq_zero_or_pos len with h | h
        · subst h; exact absurd rfl hne
        · exact h
      obtain ⟨p0, q0, hc0, -⟩ := key 0 hlen
      have ha := addr_none (by simpa using hc0)
      have hlt := World.block_lt_of_cell? _ _ hc0
      rw [ha] at hlt
      refine ⟨a.block, a.off, by rw [← ha], by simpa [Addr.add] using hlt, fun i hi => ?_⟩
      have hi' : i < len := by simpa using hi
      obtain ⟨p, q, e0, e1, hp, hq⟩ := key i hi'
      have f0 := cellN_of e0
      have f1 := cellN_of e1
      rw [ha, add_plain] at e0 e1
      simp only [List.getElem_map, List.getElem_range, f0, f1]
      exact ⟨hp, hq, e0, by rw [← Nat.add_assoc] at e1; exact e1⟩

end Go.Proofs.Ytgfgfggoofjeeaa
