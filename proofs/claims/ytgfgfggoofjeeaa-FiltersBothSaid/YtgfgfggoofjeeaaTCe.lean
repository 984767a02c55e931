/-
  A BLOCK OF TUPLES of the call's own, known cell by cell: stores.
-/
import Derived.Test.YtgfgfggoofjeeaaTSome
import Derived.Lib.SliceRun
import Derived.Shelf.GgSortFunc.RowK
namespace Go.Proofs.Ytgfgfggoofjeeaa
open Go.RowKit Go.Sort

/-- block g holds the tuples d, with room for cap -/
def Cel (w : World) (g cap : Nat) (d : List Tup) : Prop :=
  d.length ≤ cap ∧ cap ≤ maxLen ∧ ∃ cur : Array Value, w.heap[g]? = some (.cells cur 44 (0, 0)) ∧ cur.size = cap * 6 ∧ ∀ i, (h : i < d.length) → ∀ c v, (enc d[i])[c]? = some v → cur[i * 6 + c]? = some v
/-- only block g, and what is new, has turned; draws were made -/
structure Touch (w w' : World) (g : Nat) : Prop extends w.grownBy w' (some g) where
  drawn : w.drawn ≤ w'.drawn

section
variable {w w' w'' : World} {g cap : Nat} {d : List Tup}
theorem Touch.refl (w : World) (g : Nat) : Touch w w g := ⟨⟨rfl, rfl, rfl, Nat.le_refl _, fun _ _ _ => rfl⟩, Nat.le_refl _⟩
theorem Touch.drewN (h : Touch w w' g) (n : Nat) : Touch w (w'.drewN n) g := ⟨⟨h.os, h.tape, h.output, h.size, h.block⟩, Nat.le_trans h.drawn (Nat.le_add_right _ _)⟩
theorem Touch.set (h : Touch w w' g) (j : Nat) (u : Value) : Touch w (w'.setCell ⟨g, j, none⟩ u) g :=
  ⟨⟨h.os, h.tape, h.output, by simpa [World.setCell] using h.size, fun k hk hne => (Below.heap_setCell w' ⟨g, j, none⟩ u k (fun e => hne (by rw [e]))).trans (h.block k hk hne)⟩, h.drawn⟩
theorem Touch.sets (h : Touch w w' g) : ∀ (vs : List Value) (o : Nat), Touch w (w'.setCells g o vs) g := by
  intro vs
  induction vs generalizing w' with
  | nil => intro o; exact h
  | cons v r ih => intro o; exact ih (h.set o v) (o + 1)
theorem Cel.lt (h : Cel w g cap d) : g < w.heap.size := by
  obtain ⟨_, _, cur, hg, _⟩ := h
  rcases Nat.lt_or_ge g w.heap.size with hlt | hge
  · exact hlt
  · rw [Array.getElem?_eq_none hge] at hg; cases hg
theorem Cel.cell (h : Cel w g cap d) {i c : Nat} {v : Value} (hi : i < d.length) (hv : (enc d[i])[c]? = some v) : w.cell? ⟨g, i * 6 + c, none⟩ = some v := by
  obtain ⟨_, _, cur, hg, _, hc⟩ := h
  rw [cell_of_row w g _ cur _ _ hg]; exact hc i hi c v hv
theorem Cel.frozen (h : Cel w g cap d) (j : Nat) : w.frozen? ⟨g, j, none⟩ = false := by
  obtain ⟨_, _, cur, hg, _⟩ := h
  simp [World.frozen?, hg]
theorem Cel.some_ (h : Cel w g cap d) {j : Nat} (hj : j < cap * 6) : (w.cell? ⟨g, j, none⟩).isSome = true := by
  obtain ⟨_, _, cur, hg, hs, _⟩ := h
  rw [cell_of_row w g _ cur _ _ hg, Array.getElem?_eq_getElem (by omega)]; rfl
theorem Cel.keep (h : Cel w g cap d) (hb : w'.heap[g]? = w.heap[g]?) : Cel w' g cap d := by
  obtain ⟨h1, h2, cur, hg, rest⟩ := h
  exact ⟨h1, h2, cur, hb.trans hg, rest⟩
theorem Cel.drewN (h : Cel w g cap d) (n : Nat) : Cel (w.drewN n) g cap d := h
theorem Cel.lies (h : Cel w g cap d) : Lies w g 0 d := ⟨h.lt, fun i hi c v hv => by rw [Nat.zero_add]; exact h.cell hi hv⟩
theorem Cel.take (h : Cel w g cap d) (m : Nat) : Cel w g cap (d.take m) := by
  obtain ⟨h1, h2, cur, hg, hs, hc⟩ := h
  refine ⟨by rw [List.length_take]; omega, h2, cur, hg, hs, fun i hi c v hv => ?_⟩
  rw [List.getElem_take] at hv
  exact hc i (by rw [List.length_take] at hi; omega) c v hv
theorem cel_of_own {base : Nat} {l : List Tup} {A : Option Addr} {c : Nat} (hl : l ≠ []) (h : Own w base (.slice A l.length c) l) : ∃ g, A = some ⟨g, 0, none⟩ ∧ base ≤ g ∧ Cel w g c l := by
  rcases h.2 with ⟨_, hn⟩ | ⟨g, cap, cur, hv, hb, hg, hc, hm, hsz, ht⟩
  · exact absurd (List.eq_nil_of_length_eq_zero hn) hl
  · injection hv with e1 _ e3
    subst e1; subst e3
    refine ⟨g, rfl, hb, hc, hm, cur, hg, hsz, fun i hi k v hv => ?_⟩
    have hlt := enc_lt hv
    have h1 := flat_get l i k hi hlt
    rw [hv, ← ht] at h1
    rw [List.getElem?_take] at h1
    split at h1
    · simpa using h1
    · cases h1
theorem own_of_cel {base : Nat} {l : List Tup} {c : Nat} (hb : base ≤ g) (h : Cel w g c l) : Own w base (.slice (some ⟨g, 0, none⟩) l.length c) l := by
  obtain ⟨h1, h2, cur, hg, hs, hc⟩ := h
  refine ⟨flat_len l, .inr ⟨g, c, cur, rfl, hb, hg, h1, h2, hs, ?_⟩⟩
  apply List.ext_getElem?
  intro j
  rw [List.getElem?_take]
  by_cases hj : j < l.length * 6
  · rw [if_pos hj]
    have e : j = j / 6 * 6 + j % 6 := by omega
    have hlt : j % 6 < 6 := Nat.mod_lt _ (by omega)
    rw [e, flat_get l (j / 6) (j % 6) (by omega) hlt]
    have hv : (enc (l[j / 6]'(by omega)))[j % 6]? = some ((enc (l[j / 6]'(by omega)))[j % 6]'(by rw [enc_len]; exact hlt)) := List.getElem?_eq_getElem _
    rw [hv]
    have := hc (j / 6) (by omega) (j % 6) _ hv
    simpa using this
  · rw [if_neg hj, List.getElem?_eq_none (by rw [flat_len]; omega)]
end

/-- a run of stores into an array -/
theorem sets_heap (g : Nat) (t : TypeId) : ∀ (vs : List Value) (o : Nat) (w : World) (cur : Array Value), w.heap[g]? = some (.cells cur t (0, 0)) → (w.setCells g o vs).heap[g]? = some (.cells (setMany cur o vs) t (0, 0))
  | [], _, _, _, h => h
  | v :: r, o, w, cur, h => by
    refine sets_heap g t r (o + 1) (w.setCell ⟨g, o, none⟩ v) _ ?_
    simp [World.setCell, Array.getElem?_modify, h]
theorem many_get (vs : List Value) (s : Nat) (F : Array Value) (t : Nat) (ht : t < F.size) : (setMany F s vs)[t]? = if s ≤ t ∧ t < s + vs.length then vs[t - s]? else F[t]? := by
  have h := get_setMany vs s F t ht
  rw [Array.getElem?_eq_getElem (by rw [size_setMany]; exact ht), Array.getElem?_eq_getElem ht]
  rw [getElem!_pos _ t (by rw [size_setMany]; exact ht), getElem!_pos F t ht] at h
  rw [h]
  split
  · rename_i hc
    rw [getElem!_pos vs (t - s) (by omega), List.getElem?_eq_getElem (by omega)]
  · rfl
section
variable {w w' : World} {g cap : Nat} {d : List Tup}
/-- tuple k is written over -/
theorem Cel.put (h : Cel w g cap d) {k : Nat} (x : Tup) : Cel (w.setCells g (k * 6) (enc x)) g cap (d.set k x) := by
  obtain ⟨h1, h2, cur, hg, hs, hc⟩ := h
  refine ⟨by rw [List.length_set]; exact h1, h2, _, sets_heap g _ _ _ _ _ hg, by rw [size_setMany]; exact hs, fun i hi c v hv => ?_⟩
  rw [List.length_set] at hi
  have hlt := enc_lt hv
  rw [many_get _ _ _ _ (by omega), enc_len]
  by_cases e : k = i
  · subst e
    rw [List.getElem_set_self] at hv
    rw [if_pos (by omega), show k * 6 + c - k * 6 = c by omega]; exact hv
  · rw [List.getElem_set_ne e] at hv
    rw [if_neg (by omega)]; exact hc i hi c v hv
/-- what lies behind the first m is written over -/
theorem Cel.wipe (h : Cel w g cap d) {m : Nat} (vs : List Value) : Cel (w.setCells g (m * 6) vs) g cap (d.take m) := by
  obtain ⟨h1, h2, cur, hg, hs, hc⟩ := h.take m
  refine ⟨h1, h2, _, sets_heap g _ _ _ _ _ hg, by rw [size_setMany]; exact hs, fun i hi c v hv => ?_⟩
  have hlt := enc_lt hv
  have hi2 : i < m := by rw [List.length_take] at hi; omega
  have hcs := h1
  rw [many_get _ _ _ _ (by omega), if_neg (by omega)]; exact hc i hi c v hv
end

end Go.Proofs.Ytgfgfggoofjeeaa
