/-
  TREESANY's words for the walk: lists told by their keys; the keys that came in; the list of halves.
-/
import Derived.Test.YthkceffnfhdjhaaDVw
namespace Go.Proofs.Ythkceffnfhdjhaa
open Go.RowKit Go.Deep

namespace Tr
theorem put_mem_iff {k v : Int} : ∀ {l : List (Int × Int)}, Asc id l → ∀ p, p ∈ putL id l k v ↔ (p ∈ l ∧ p.1 ≠ k) ∨ p = (k, v)
  | [], _, p => by simp [putL]
  | q :: t, h, p => by
    obtain ⟨h1, h2⟩ := asc_cons h
    have h2' : ∀ x ∈ t, q.1 < x.1 := h2
    unfold putL
    by_cases c1 : k < q.1
    · rw [if_pos (show id k < id q.1 from c1), List.mem_cons, List.mem_cons]
      constructor
      · rintro (rfl | rfl | hx)
        · exact .inr rfl
        · exact .inl ⟨.inl rfl, by omega⟩
        · exact .inl ⟨.inr hx, by have := h2' p hx; omega⟩
      · rintro (⟨hx, -⟩ | rfl)
        · exact .inr hx
        · exact .inl rfl
    · rw [if_neg (show ¬ id k < id q.1 from c1)]
      by_cases c2 : q.1 = k
      · rw [if_pos (show id q.1 = id k from c2), List.mem_cons, List.mem_cons, c2]
        constructor
        · rintro (rfl | hx)
          · exact .inr rfl
          · exact .inl ⟨.inr hx, by have := h2' p hx; omega⟩
        · rintro (⟨rfl | hx, hne⟩ | rfl)
          · exact absurd c2 hne
          · exact .inr hx
          · exact .inl rfl
      · rw [if_neg (show ¬ id q.1 = id k from c2), List.mem_cons, List.mem_cons, put_mem_iff h1 p]
        constructor
        · rintro (rfl | ⟨hx, hne⟩ | rfl)
          · exact .inl ⟨.inl rfl, c2⟩
          · exact .inl ⟨.inr hx, hne⟩
          · exact .inr rfl
        · rintro (⟨rfl | hx, hne⟩ | rfl)
          · exact .inl rfl
          · exact .inr (.inl ⟨hx, hne⟩)
          · exact .inr (.inr rfl)
/-- half of a number, as the program takes it -/
abbrev hv (x : Int) : Int := wrap64 (x.tdiv 2)
/-- the list that has each key of some with its half -/
def Hlf (l : List (Int × Int)) (S : Int → Prop) : Prop := ∀ p, p ∈ l ↔ S p.1 ∧ p.2 = hv p.1
theorem hlf_nil : Hlf [] (fun _ => False) := fun p => by simp
theorem Hlf.put {l : List (Int × Int)} {S S' : Int → Prop} {k : Int} (h : Hlf l S) (ha : Asc id l) (hs : ∀ x, S' x ↔ S x ∨ x = k) : Hlf (putL id l k (hv k)) S' := fun p => by
  rw [put_mem_iff ha, h p, hs]
  constructor
  · rintro (⟨⟨h1, h2⟩, -⟩ | rfl)
    · exact ⟨.inl h1, h2⟩
    · exact ⟨.inr rfl, rfl⟩
  · rintro ⟨h1, h2⟩
    by_cases hk : p.1 = k
    · exact .inr (Prod.ext hk (by rw [h2, hk]))
    · exact .inl ⟨⟨h1.resolve_right hk, h2⟩, hk⟩
theorem Hlf.ext {l l' : List (Int × Int)} {S S' : Int → Prop} (h : Hlf l S) (h' : Hlf l' S') (ha : Asc id l) (ha' : Asc id l') (hs : ∀ x, S x ↔ S' x) : l = l' :=
  asc_ext ha ha' fun p => by rw [h p, h' p, hs]
/-- a pair that is dropped and put in again -/
theorem drop_put {l : List (Int × Int)} {i : Nat} {k v : Int} (ha : Asc id l) (h : l[i]? = some (k, v)) : putL id (dropL id l k) k v = l := by
  refine asc_ext (put_asc (drop_asc ha)) ha fun p => ?_
  rw [put_mem_iff (drop_asc ha), drop_iff]
  constructor
  · rintro (⟨⟨h1, -⟩, -⟩ | rfl)
    · exact h1
    · exact List.mem_of_getElem? h
  · intro hp
    by_cases hk : p.1 = k
    · exact .inr (DI.asc_inj ha p hp _ (List.mem_of_getElem? h) hk)
    · exact .inl ⟨⟨hp, hk⟩, hk⟩
theorem drop_at_len {l : List (Int × Int)} {i : Nat} {k v : Int} (ha : Asc id l) (h : l[i]? = some (k, v)) : (dropL id l k).length + 1 = l.length := by
  have hr := rk_at ha h
  have hi := (List.getElem?_eq_some_iff.1 h).1
  rw [drop_old (f := id) (k0 := k) (v0 := v) rfl ha (by rw [hr]; exact h), hr, List.length_eraseIdx, if_pos hi]; omega
end Tr
/-- a turned row has the same elements -/
theorem turned {L : List Int} {n r : Nat} (h0 : 0 < n) (x : Int) : (∃ i, i < n ∧ L[i]? = some x) ↔ (∃ i, i < n ∧ L[(i + r) % n]? = some x) := by
  constructor
  · rintro ⟨m, hm, hx⟩
    have hr : r % n < n := Nat.mod_lt _ h0
    by_cases hmr : r % n ≤ m
    · refine ⟨m - r % n, by omega, ?_⟩
      rw [← Nat.add_mod_mod, Nat.sub_add_cancel hmr, Nat.mod_eq_of_lt hm]; exact hx
    · refine ⟨m + n - r % n, by omega, ?_⟩
      rw [← Nat.add_mod_mod, Nat.sub_add_cancel (by omega), Nat.add_mod_right, Nat.mod_eq_of_lt hm]; exact hx
  · rintro ⟨i, hi, hx⟩
    exact ⟨_, Nat.mod_lt _ h0, hx⟩

/-- numbers of 16 bits that came in -/
def SIn (w : World) (A : Option Addr) (L : List Int) : Prop :=
  L ≠ [] → ∃ g o, A = some ⟨g, o, none⟩ ∧ g < w.heap.size ∧ ∀ i, (h : i < L.length) → w.cell? ⟨g, o + i, none⟩ = some (.int .i16 L[i]) ∧ -32768 ≤ L[i] ∧ L[i] ≤ 32767

/-! ### the order of halves -/
/-- the list behind so many numbers, by halves -/
def hl (i : Nat) : List (Int × Int) := (List.range ((i + 1) / 2)).map fun (j : Nat) => (2 * (j : Int), ((min (2 * j + 1) (i - 1) : Nat) : Int))
theorem hl_len (i : Nat) : (hl i).length = (i + 1) / 2 := by simp [hl]
theorem hl_at {i j : Nat} (h : j < (i + 1) / 2) : (hl i)[j]? = some (2 * (j : Int), ((min (2 * j + 1) (i - 1) : Nat) : Int)) := by
  simp [hl, h]
theorem put_app {f : Int → Int} {k v : Int} : ∀ {l t : List (Int × Int)}, (∀ p ∈ l, f p.1 < f k) → Tr.putL f (l ++ t) k v = l ++ Tr.putL f t k v
  | [], t, _ => rfl
  | p :: l, t, h => by
    have h1 := h p List.mem_cons_self
    rw [List.cons_append, Tr.putL, if_neg (by omega), if_neg (by omega), put_app fun q hq => h q (List.mem_cons_of_mem _ hq)]; rfl
theorem hl_put {f : Int → Int} (hf : ∀ j : Nat, j ≤ 60 → f (2 * (j : Int)) = j ∧ f (2 * (j : Int) + 1) = j) (i : Nat) (hi : i ≤ 60) : Tr.putL f (hl i) (i : Int) (i : Int) = hl (i + 1) := by
  rcases (show (∃ m, i = 2 * m) ∨ (∃ m, i = 2 * m + 1) from (Nat.mod_two_eq_zero_or_one i).elim (fun h => .inl ⟨i / 2, by omega⟩) (fun h => .inr ⟨i / 2, by omega⟩)) with ⟨m, rfl⟩ | ⟨m, rfl⟩
  · have hk : f ((2 * m : Nat) : Int) = m := by rw [show ((2 * m : Nat) : Int) = 2 * (m : Int) by omega]; exact (hf m (by omega)).1
    have h1 : ∀ p ∈ hl (2 * m), f p.1 < f ((2 * m : Nat) : Int) := by
      intro p hp
      obtain ⟨j, hj, rfl⟩ := List.mem_map.1 hp
      have hj' := List.mem_range.1 hj
      rw [hk, (hf j (by omega)).1]; omega
    have h2 := put_app (t := []) (v := ((2 * m : Nat) : Int)) h1
    rw [List.append_nil] at h2
    rw [h2]
    show hl (2 * m) ++ [(((2 * m : Nat) : Int), ((2 * m : Nat) : Int))] = hl (2 * m + 1)
    unfold hl
    rw [show (2 * m + 1 + 1) / 2 = m + 1 by omega, show (2 * m + 1) / 2 = m by omega, List.range_succ, List.map_append]
    congr 1
    · refine List.map_congr_left fun j hj => ?_
      have hj' := List.mem_range.1 hj
      rw [show min (2 * j + 1) (2 * m - 1) = min (2 * j + 1) (2 * m + 1 - 1) by omega]
    · simp
  · have hk : f ((2 * m + 1 : Nat) : Int) = m := by rw [show ((2 * m + 1 : Nat) : Int) = 2 * (m : Int) + 1 by omega]; exact (hf m (by omega)).2
    have e : hl (2 * m + 1) = (List.range m).map (fun (j : Nat) => (2 * (j : Int), ((2 * j + 1 : Nat) : Int))) ++ [(2 * (m : Int), ((2 * m : Nat) : Int))] := by
      unfold hl
      rw [show (2 * m + 1 + 1) / 2 = m + 1 by omega, List.range_succ, List.map_append]
      congr 1
      · refine List.map_congr_left fun j hj => ?_
        have hj' := List.mem_range.1 hj
        rw [show min (2 * j + 1) (2 * m + 1 - 1) = 2 * j + 1 by omega]
      · simp only [List.map_cons, List.map_nil]
        rw [show min (2 * m + 1) (2 * m + 1 - 1) = 2 * m by omega]
    have e2 : hl (2 * m + 1 + 1) = (List.range m).map (fun (j : Nat) => (2 * (j : Int), ((2 * j + 1 : Nat) : Int))) ++ [(2 * (m : Int), ((2 * m + 1 : Nat) : Int))] := by
      unfold hl
      rw [show (2 * m + 1 + 1 + 1) / 2 = m + 1 by omega, List.range_succ, List.map_append]
      congr 1
      · refine List.map_congr_left fun j hj => ?_
        have hj' := List.mem_range.1 hj
        rw [show min (2 * j + 1) (2 * m + 1 + 1 - 1) = 2 * j + 1 by omega]
      · simp only [List.map_cons, List.map_nil]
        rw [show min (2 * m + 1) (2 * m + 1 + 1 - 1) = 2 * m + 1 by omega]
    rw [e, e2, put_app, Tr.putL, hk]
    · have := (hf m (by omega)).1
      rw [if_neg (by simp only []; omega), if_pos (by simp only []; omega)]
    · intro p hp
      obtain ⟨j, hj, rfl⟩ := List.mem_map.1 hp
      have hj' := List.mem_range.1 hj
      rw [hk, (hf j (by omega)).1]; omega
end Go.Proofs.Ythkceffnfhdjhaa
