/-
  BYTES AS AN ARGUMENT, taken apart.
-/
import Derived.Test.YtohnhjmiblgkkaaCPB
import Derived.ProofKit
import Derived.OpenShut
import Derived.ShutString
import Derived.ChangeSame
import Derived.ChangeSlices
import Derived.Carry
namespace Go.Proofs.Ytohnhjmiblgkkaa
open Go.ChangeShapes Go.WideShapes Go.ChangeAt Go.RowKit
variable {H : Type} {enc : TypeId × Value → H} {P : Program} {w : World} {base : Nat} {spare : Nat → Bool} {held : Bool}

theorem u8_nat {n : Int} (h : (Lit.int .u8 n).wf = true) : n = (n.toNat : Int) ∧ n.toNat < 256 := by
  simp [Lit.wf, IntKind.min, IntKind.max, IntKind.signed, IntKind.bits] at h
  omega
theorem addr_none {w : World} {a : Addr} {u : Value} (h : w.cell? (a.add 0) = some u) : a = ⟨a.block, a.off, none⟩ := by
  obtain ⟨b, o, s⟩ := a
  rw [show (⟨b, o, s⟩ : Addr).add 0 = ⟨b, o, s⟩ from rfl] at h
  cases s with
  | none => rfl
  | some k =>
    exfalso
    unfold World.cell? at h
    split at h <;> simp at h
theorem add_at (b o i : Nat) : (⟨b, o, none⟩ : Addr).add i = ⟨b, o + i, none⟩ := by unfold Addr.add; split <;> simp_all
theorem open_u8s {z e : TypeId} {r : Reach} {b0 : Nat} {v : Value} {d : DataW H} {p : List MemPlace} (hz : P.underlying z = some (.slice e)) (he : P.underlying e = some (.int .u8)) (hc : P.cellsOf e = 1) (hv : Value.okWide P w r b0 z v) (h : DataW.Trod enc P w base spare held z v d p) (hfz : w.noneFrozen p) :
    ∃ A c L, v = .slice A (L : List UInt8).length c ∧ L.length ≤ c ∧ c ≤ maxLen ∧ (A = none → c = 0) ∧ BIn w A L := by
  obtain ⟨a0, n0, c0, rfl⟩ := okWide_slice hz hv
  obtain ⟨fuel, hf⟩ := h
  rcases open_ints hz he hc hf with ⟨hc, -⟩ | ⟨a, len, cap, zs, hc, hb, hle, hcap, hzs, hx, hcell, hwf⟩
  · have hc' : Value.slice a0 n0 c0 = .slice none 0 0 := by simpa [Value.cells] using hc
    rw [hc']
    exact ⟨none, 0, [], rfl, Nat.le_refl _, Nat.zero_le _, fun _ => rfl, fun h => absurd rfl h, fun h => absurd rfl h⟩
  · have hc' : Value.slice a0 n0 c0 = .slice (some a) len cap := by simpa [Value.cells] using hc
    rw [hc']
    have hlz : len ≤ zs.length := by rw [hzs]; split <;> omega
    have hp : p = MemPlace.row a zs.length := congrArg Prod.snd hx
    have hL : ((zs.take len).map fun n => UInt8.ofNat n.toNat).length = len := by simp; omega
    have key : ∀ i, i < len → w.cell? (a.add i) = some (.int .u8 (((zs.take len).map fun n => UInt8.ofNat n.toNat).getD i 0).toNat) := fun i hi => by
      rw [hcell i (by omega)]
      have hi2 : i < zs.length := by omega
      have e1 : ((zs.take len).map fun n => UInt8.ofNat n.toNat).getD i 0 = UInt8.ofNat (zs[i]).toNat := by
        simp [List.getD, hi, hi2]
      have e2 : zs.getD i 0 = zs[i] := by simp [List.getD, hi2]
      have hw := u8_nat (hwf zs[i] (List.getElem_mem hi2))
      rw [e1, e2]
      have h3 : (UInt8.ofNat (zs[i]).toNat).toNat = (zs[i]).toNat := by simp; omega
      rw [h3, ← hw.1]
    generalize ((zs.take len).map fun n => UInt8.ofNat n.toNat) = L at *
    refine ⟨some a, cap, L, by rw [hL], by rw [hL]; exact hle, hcap, fun h => (by cases h), fun hne => ?_, fun hne a' ha' i hi => ?_⟩
    · have hpos : 0 < len := by
        rcases Nat.eq_zero_or_pos len with h | h
        · subst h; exact absurd (List.eq_nil_of_length_eq_zero hL) hne
        · exact h
      have ha := addr_none (key 0 hpos)
      have hlt := World.block_lt_of_cell? _ _ (key 0 hpos)
      rw [ha] at hlt
      refine ⟨a.block, a.off, by rw [← ha], by simpa [Addr.add] using hlt, fun i hi => ?_⟩
      rw [hL] at hi
      have hk := key i hi
      rw [ha] at hk
      rw [add_at] at hk
      rw [hk]
      rw [List.getD_eq_getElem?_getD, List.getElem?_eq_getElem (show i < L.length by rw [hL]; exact hi)]
      rfl
    · injection ha' with ha'
      subst ha'
      rw [hL] at hi
      exact hfz _ _ (by rw [hp]; exact MemPlace.mem_row.2 ⟨i, by omega, rfl⟩)
end Go.Proofs.Ytohnhjmiblgkkaa
