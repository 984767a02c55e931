/-
  NUMBERS OF 16 BITS that came in as a slice: opened as plain data.
-/
import Derived.Test.YthkceffnfhdjhaaDArg
import Derived.Test.YthkceffnfhdjhaaDAn
namespace Go.Proofs.Ythkceffnfhdjhaa
open Go.ChangeShapes Go.WideShapes Go.ChangeAt Go.RowKit Go.Deep
section
variable {H : Type} {enc : TypeId × Value → H} {P : Program} {w : World} {base : Nat} {spare : Nat → Bool} {held : Bool}
theorem open_i16s {z e : TypeId} {r : Reach} {b0 : Nat} {v : Value} {d : DataW H} {p : List MemPlace} (hz : P.underlying z = some (.slice e)) (he : P.underlying e = some (.int .i16)) (hc : P.cellsOf e = 1) (hv : Value.okWide P w r b0 z v) (h : DataW.Trod enc P w base spare held z v d p) :
    ∃ A c L, v = .slice A (L : List Int).length c ∧ SIn w A L := by
  obtain ⟨a0, n0, c0, rfl⟩ := okWide_slice hz hv
  obtain ⟨fuel, hf⟩ := h
  rcases open_ints hz he hc hf with ⟨hc, -⟩ | ⟨a, len, cap, zs, hc, hb, hle, hcap, hzs, hx, hcell, hwf⟩
  · have hc' : Value.slice a0 n0 c0 = .slice none 0 0 := by simpa [Value.cells] using hc
    rw [hc']
    exact ⟨none, 0, [], rfl, fun h => absurd rfl h⟩
  · have hc' : Value.slice a0 n0 c0 = .slice (some a) len cap := by simpa [Value.cells] using hc
    rw [hc']
    have hlz : len ≤ zs.length := by rw [hzs]; split <;> omega
    have hL : (zs.take len).length = len := by simp; omega
    refine ⟨some a, cap, zs.take len, by rw [hL], fun hne => ?_⟩
    have hpos : 0 < len := by
      rcases Nat.eq_zero_or_pos len with h | h
      · subst h; exact absurd (List.eq_nil_of_length_eq_zero hL) hne
      · exact h
    have h0 := hcell 0 (by omega)
    have ha := addr_none h0
    have hlt := World.block_lt_of_cell? _ _ h0
    rw [ha] at hlt
    refine ⟨a.block, a.off, by rw [← ha], by simpa [Addr.add] using hlt, fun i hi => ?_⟩
    have hi1 : i < len := by rw [hL] at hi; exact hi
    have hi2 : i < zs.length := by omega
    have h1 := hcell i hi2
    have e2 : zs.getD i 0 = zs[i] := by simp [List.getD, hi2]
    rw [e2, ha, add_at] at h1
    have e3 : (zs.take len)[i] = zs[i] := by simp
    rw [e3]
    exact ⟨h1, i16_rng (hwf zs[i] (List.getElem_mem hi2))⟩
end
end Go.Proofs.Ythkceffnfhdjhaa
