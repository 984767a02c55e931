/-
  A BLOCK OF TUPLES of the call's own, known cell by cell: stores, clearing, and what the sort leaves.
-/
import Derived.Test.YtgfgfggoofjeeaaTCe
import Derived.Lib.SliceRun
import Derived.Shelf.SlSortCmp.InsertionK
namespace Go.Proofs.Ytgfgfggoofjeeaa
open Go.RowKit Go.Sort

theorem zeroT (w : World) : (zeroValue 44).run Try.prog w = .ok zT w := by
  obtain ⟨i0, hi, hz0, hz1, hz2⟩ := info_parts infoT
  simp [zeroValue, typeInfo, hi, hz0]
/-- 'clear(s)' -/
theorem run_clearT {w : World} {g cap : Nat} {d : List Tup} (h : Cel w g cap d) (n k c : Nat) (hk : k < n) (hn : n = d.length) :
    ∃ vs, ∀ ty, (Builtin.clear_ #[28] ty #[.slice (some ⟨g, k * 6, none⟩) (n - k) c]).run Try.prog w = .ok (.tuple #[]) (w.setCells g (k * 6) vs) := by
  subst hn
  have hlen : (Builtin.zeroCells zT.cells (d.length - k)).toList.length = (d.length - k) * 6 := by simp [Builtin.zeroCells, zT, Value.cells]
  have h1 := h.1
  have hone : ∀ v ∈ (Builtin.zeroCells zT.cells (d.length - k)).toList, v.oneCell' = true := by
    intro v hv
    rw [Array.mem_toList_iff] at hv
    unfold Builtin.zeroCells at hv
    obtain ⟨j, _, e⟩ := Array.mem_map.1 hv
    rw [← e, show zT.cells.size = 6 from rfl]
    rcases (show j % 6 = 0 ∨ j % 6 = 1 ∨ j % 6 = 2 ∨ j % 6 = 3 ∨ j % 6 = 4 ∨ j % 6 = 5 by omega) with h | h | h | h | h | h <;> rw [h] <;> rfl
  have hst := run_storeCells_cells (P := Try.prog) g (k * 6) (Builtin.zeroCells zT.cells (d.length - k)).toList 0 w
    (fun j hj => by rw [hlen] at hj; exact h.some_ (by omega)) (fun j hj => h.frozen _) hone
  simp only [Nat.add_zero] at hst
  obtain ⟨m, hm⟩ : ∃ m, d.length - k = m + 1 := ⟨d.length - k - 1, by omega⟩
  refine ⟨(Builtin.zeroCells zT.cells (d.length - k)).toList, fun ty => ?_⟩
  rw [hm] at hst ⊢
  simp only [zT] at hst ⊢
  simp [Builtin.clear_, run_underlying Try.underlying28, hst]

/-- what the sort asks -/
theorem Cel.holds {w : World} {g cap : Nat} {d : List Tup} (h : Cel w g cap d) : HoldsK enc 6 w g 0 d.toArray := by
  intro j hj
  rw [size_flatK, List.size_toArray] at hj
  rw [get_flatK enc 6 _ _ (by simpa using hj)]
  have e : j = j / 6 * 6 + j % 6 := by omega
  have hlt : j % 6 < 6 := Nat.mod_lt _ (by omega)
  have hi : j / 6 < d.length := by omega
  rw [Nat.zero_add]
  refine ⟨?_, h.frozen _⟩
  have hv : (enc d[j / 6])[j % 6]? = some ((enc d[j / 6])[j % 6]'(by rw [enc_len]; exact hlt)) := List.getElem?_eq_getElem _
  have h2 := h.cell hi hv
  rw [← e] at h2
  rw [h2]
  simp [hi, hv]
/-- what the sort leaves -/
theorem Cel.sorted {w : World} {g cap : Nat} {d d' : List Tup} (h : Cel w g cap d) (hl : d'.length = d.length) (n : Nat) (os : Array Obj) :
    Cel (sortWorldK enc 6 w g 0 n d'.toArray os) g cap d' ∧ Touch w (sortWorldK enc 6 w g 0 n d'.toArray os) g := by
  obtain ⟨h1, h2, cur, hg, hs, hc⟩ := h
  have hgl : g < w.heap.size := Cel.lt ⟨h1, h2, cur, hg, hs, hc⟩
  have hp : (putRowK enc 6 (Sort.ahead w n) g 0 d'.toArray).heap[g]? = some (.cells (putCells id 0 (flatK enc 6 d'.toArray) cur) 44 (0, 0)) := by
    unfold putRowK putRow mapBlock
    simp only [Array.getElem?_modify, if_true]
    show Option.map _ w.heap[g]? = _
    rw [hg]; rfl
  refine ⟨⟨by omega, h2, putCells id 0 (flatK enc 6 d'.toArray) cur, ?_, ?_, ?_⟩, ⟨⟨rfl, rfl, rfl, ?_, ?_⟩, Nat.le_add_right _ _⟩⟩
  · unfold sortWorldK
    rw [heap_grow_old]
    · exact hp
    · rcases Nat.lt_or_ge g (putRowK enc 6 (Sort.ahead w n) g 0 d'.toArray).heap.size with hh | hh
      · exact hh
      · rw [Array.getElem?_eq_none hh] at hp; cases hp
  · simp [putCells, hs]
  · intro i hi c v hv
    have hlt := enc_lt hv
    have hb : i * 6 + c < cur.size := by omega
    simp only [putCells, Array.getElem?_mapIdx, Array.getElem?_eq_getElem hb, Option.map_some]
    rw [if_pos (by rw [size_flatK, List.size_toArray]; omega), Nat.sub_zero, get_flatK enc 6 _ _ (by rw [List.size_toArray]; omega)]
    rw [show (i * 6 + c) / 6 = i by omega, show (i * 6 + c) % 6 = c by omega]
    simp only [id]
    congr 1
    have h3 : (enc d'[i])[c]? = some ((enc d'[i])[c]'(by rw [enc_len]; exact hlt)) := List.getElem?_eq_getElem _
    have h4 := h3
    rw [hv] at h3
    injection h3 with h3
    rw [h3]
    simp [hi, h4]
  · exact size_sortWorldK_c enc 6 w g 0 n d'.toArray os
  · intro k hk hne
    unfold sortWorldK
    have hsz : (putRowK enc 6 (Sort.ahead w n) g 0 d'.toArray).heap.size = w.heap.size := by
      unfold putRowK putRow mapBlock; rw [Array.size_modify]; rfl
    rw [heap_grow_old _ _ (by rw [hsz]; exact hk)]
    unfold putRowK putRow mapBlock
    simp only [Array.getElem?_modify]
    rw [if_neg (fun e => hne (by rw [e]))]; rfl

end Go.Proofs.Ytgfgfggoofjeeaa
