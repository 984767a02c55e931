/-
  WHAT A LIST OF CALLS IS THAT CAME IN: opened as plain data.
-/
import Derived.Test.YthkceffnfhdjhaaDPlay
import Derived.ProofKit
import Derived.OpenShut
import Derived.ShutString
import Derived.ChangeSame
import Derived.ChangeSlices
import Derived.Carry
import Derived.Deep.Slices
namespace Go.Proofs.Ythkceffnfhdjhaa
open Go.ChangeShapes Go.WideShapes Go.ChangeAt Go.RowKit Go.Deep
section
variable {H : Type} {enc : TypeId × Value → H} {w : World} {base : Nat} {spare : Nat → Bool} {held : Bool}
theorem u8_nat {n : Int} (h : (Lit.int .u8 n).wf = true) : n = (n.toNat : Int) ∧ n.toNat < 256 := by
  simp [Lit.wf, IntKind.min, IntKind.max, IntKind.signed, IntKind.bits] at h
  omega
theorem addr_none {w : World} {a : Addr} {u : Value} (h : w.cell? (a.add 0) = some u) : a = ⟨a.block, a.off, none⟩ := by
  obtain ⟨b, o, s⟩ := a
  rw [show (⟨b, o, s⟩ : Addr).add 0 = ⟨b, o, s⟩ from rfl] at h
  cases s with
  | none => rfl
  | some k =>
    exfalso
    unfold World.cell? at h
    split at h <;> simp at h
theorem add_at (b o i : Nat) : (⟨b, o, none⟩ : Addr).add i = ⟨b, o + i, none⟩ := by unfold Addr.add; split <;> simp_all
theorem i16_rng {n : Int} (h : (Lit.int .i16 n).wf = true) : -32768 ≤ n ∧ n ≤ 32767 := by
  simp [Lit.wf, IntKind.min, IntKind.max, IntKind.signed, IntKind.bits] at h
  omega
/-- the number in a cell -/
def cellI (w : World) (a : Addr) : Int :=
  match w.cell? a with
  | some (.int _ n) => n
  | _ => 0
theorem cellI_of {w : World} {a : Addr} {k : IntKind} {n : Int} (h : w.cell? a = some (.int k n)) : cellI w a = n := by unfold cellI; rw [h]
theorem oTypes : ∃ m0 m1 : Field, Try.prog.underlying 33 = some (.struct #[m0, m1]) ∧ (m0.type = 5 ∧ m1.type = 31) ∧ (m0.offset = 0 ∧ m1.offset = 1) :=
  ⟨_, _, Try.underlying33, ⟨rfl, rfl⟩, ⟨rfl, rfl⟩⟩
theorem cellsO : Try.prog.cellsOf 33 = 2 := by kernel_rfl
theorem cellsO0 : Try.prog.cellsOf 5 = 1 := by kernel_rfl
theorem cellsO1 : Try.prog.cellsOf 31 = 1 := by kernel_rfl
theorem trod_o {fuel : Nat} {u v : Value} {x : DataW H × List MemPlace} (h : DataW.trod enc Try.prog w base spare held fuel 33 [u, v] = some x) :
    ∃ (p : Nat) (q : Int), u = .int .u8 (p : Int) ∧ v = .int .i16 q ∧ p < 256 ∧ (-32768 ≤ q ∧ q ≤ 32767) := by
  obtain ⟨m0, m1, hu, ⟨t0, t1⟩, o0, o1⟩ := oTypes
  obtain ⟨xs, k, _, _, _, hxl, hxs⟩ := DataW.trod_struct hu (cs := [u, v]) h
  have h0 := hxs 0 m0 rfl
  have h1 := hxs 1 m1 rfl
  rw [t0, o0, cellsO0] at h0
  rw [t1, o1, cellsO1] at h1
  match xs, hxl with
  | [y0, y1], _ =>
    obtain ⟨n0, e0, -, w0⟩ := DataW.trod_int (cs := [u]) Try.underlying5 (by simpa using h0)
    obtain ⟨n1, e1, -, w1⟩ := DataW.trod_int (cs := [v]) Try.underlying31 (by simpa using h1)
    simp only [List.cons.injEq, and_true] at e0 e1
    obtain ⟨k0, l0⟩ := u8_nat w0
    exact ⟨n0.toNat, n1, by rw [e0, ← k0], e1, l0, i16_rng w1⟩
set_option maxRecDepth 20000 in
theorem open_os {r : Reach} {b0 : Nat} {v : Value} {d : DataW H} {p : List MemPlace} (hv : Value.okWide Try.prog w r b0 22 v) (h : DataW.Trod enc Try.prog w base spare held 22 v d p) :
    ∃ A K c, v = .slice A (K : List (Nat × Int)).length c ∧ K.length ≤ c ∧ OIn w A K := by
  obtain ⟨a0, n0, c0, rfl⟩ := okWide_slice Try.underlying22 hv
  obtain ⟨fuel, hf⟩ := h
  rcases open_slice Try.underlying22 hf with ⟨hc, -⟩ | ⟨a, len, cap, m, k, D, Pl, hc, hbase, hle, hcap, hm, -, hel⟩
  · have hc' : Value.slice a0 n0 c0 = .slice none 0 0 := by simpa [Value.cells] using hc
    rw [hc']
    exact ⟨none, [], 0, rfl, Nat.le_refl _, fun h => absurd rfl h⟩
  · have hc' : Value.slice a0 n0 c0 = .slice (some a) len cap := by simpa [Value.cells] using hc
    rw [hc']
    have hml : len ≤ m := by rw [hm]; split <;> omega
    have key : ∀ i, i < len → ∃ (p : Nat) (q : Int), w.cell? (a.add (i * 2)) = some (.int .u8 (p : Int)) ∧ w.cell? (a.add (i * 2 + 1)) = some (.int .i16 q) ∧ p < 256 ∧ (-32768 ≤ q ∧ q ≤ 32767) := fun i hi => by
      obtain ⟨cs', hcells, htr⟩ := hel i (by omega)
      rw [cellsO] at hcells
      obtain ⟨_, hlen, hcell⟩ := World.cells?_some hcells
      match cs', hlen with
      | [u, v], _ =>
        obtain ⟨p, q, rfl, rfl, hp, hq⟩ := trod_o htr
        have q0 := hcell 0 (by decide)
        have q1 := hcell 1 (by decide)
        rw [Addr.add_add] at q0 q1
        exact ⟨p, q, by simpa using q0, by simpa using q1, hp, hq⟩
    refine ⟨some a, (List.range len).map fun i => ((cellI w (a.add (i * 2))).toNat, cellI w (a.add (i * 2 + 1))), cap, by simp, by simpa using hle, fun hne => ?_⟩
    have hlen : 0 < len := by
      rcases Nat.eq_zero_or_pos len with h | h
      · subst h; exact absurd rfl hne
      · exact h
    obtain ⟨p0, q0, hc0, -⟩ := key 0 hlen
    have ha := addr_none (by simpa using hc0)
    have hlt := World.block_lt_of_cell? _ _ hc0
    rw [ha] at hlt
    refine ⟨a.block, a.off, by rw [← ha], by simpa [Addr.add] using hlt, fun i hi => ?_⟩
    have hi' : i < len := by simpa using hi
    obtain ⟨p, q, e0, e1, hp, hq⟩ := key i hi'
    have f0 := cellI_of e0
    have f1 := cellI_of e1
    rw [ha, add_at] at e0 e1
    simp only [List.getElem_map, List.getElem_range, f0, f1]
    exact ⟨by simpa using e0, by rw [← Nat.add_assoc] at e1; exact e1, by simpa using hp, hq⟩
end
end Go.Proofs.Ythkceffnfhdjhaa
