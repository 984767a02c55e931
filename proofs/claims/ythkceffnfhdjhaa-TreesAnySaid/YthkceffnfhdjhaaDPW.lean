/-
  TREESPLAY's words for the walk: the state at the start, the two appends, what lies at a place of what was kept.
-/
import Derived.Test.YthkceffnfhdjhaaDPlay
namespace Go.Proofs.Ythkceffnfhdjhaa
open Go.RowKit Go.Deep

variable {w W : World} {q : Nat} {T : Tr Int} {lm lr : List (Int × Int)} {A : Option Addr} {vm vl : Value} {ma : List (Tr Int × List (Int × Int))} {lb : List ((Option Addr × Nat) × List (Int × Int))}
theorem ps_start {w1 : World} (h : DI.MapL id w1 T []) (hb : Below w.heap.size w w1) :
    PS w (w1.alloc (.cells #[oF, .pointer T.ad] 26 (0, 0))) w1.heap.size T [] none [] (.slice none 0 0) [] (.slice none 0 0) [] := by
  have hs : w.heap.size ≤ w1.heap.size := hb.size
  have hx : Below w1.heap.size w1 (w1.alloc (.cells #[oF, .pointer T.ad] 26 (0, 0))) := g_alloc g_refl _
  exact ⟨heap_alloc_new w1 _, h.below hx, fun h => absurd rfl h, World.ownsRow_nil _ _ _ _, World.ownsRow_nil _ _ _ _, (fun _ h => by cases h), (fun _ h => by cases h), g_trans hb hx, hs⟩
theorem cell_one (w : World) (a : Value) (t : TypeId) : ∀ (j : Nat) (u : Value), [a][j]? = some u → (w.alloc (.cells #[a] t (0, 0))).cell? ((⟨w.heap.size, 0, none⟩ : Addr).add j) = some u := by
  intro j u h
  match j, h with
  | 0, h => simp at h; subst h; simp [Addr.add]
/-- the map is kept, as the walk asks it -/
theorem wp_keepM {ops : Array Oper} {rest : List Oper} {o : Oper} {a : Act} {Q : Exit → Act → World → Prop} (s x : Operand) (hgd : o.guard = none)
    (ho : o.op = .call { callee := .builtin .append, args := #[s, x], argTypes := #[29, 29] })
    (b : World) (H : PS w b q T lm A lr vm ma vl lb) {W : World} (hs : a.eval s = vm) (hx : a.eval x = .slice (some ⟨b.heap.size, 0, none⟩) 1 1) (hW : W = b.alloc (.cells #[oF, .pointer T.ad] 26 (0, 0))) (hn : ma.length ≤ 1000)
    (h : ∀ v' w', PS w w' q T lm A lr v' (ma ++ [(T, lm)]) vl lb → wpList Try.prog ops Q rest (a.put o.dst v') w') : wpList Try.prog ops Q (o :: rest) a W := by
  obtain ⟨i0, hi, hz0, hz1, hz2⟩ := info_parts infoM
  subst hW
  have hal := H.maps.alloc (.cells #[oF, .pointer T.ad] 26 (0, 0))
  refine wpList_append_own_at (P := Try.prog) _ hgd s x 29 ho (q + 1) 26 i0 _ 2 16 Try.underlying29 hi hz0 hz1 hz2 rfl (by decide) vm ma.length (ma.flatMap encM) hs hal ⟨b.heap.size, 0, none⟩ 1 1 (encM (T, lm)) hx rfl (DI.cell_two _ _ _ _) (by intro u hu; simp [encM] at hu; rcases hu with rfl | rfl <;> rfl) (by unfold maxLen; omega) (by omega) (by have := H.lt; simp; omega) ?_
  intro v' w' h1 h2 _ _
  exact h v' w' (H.keepM h1 h2)
/-- the list is kept, as the walk asks it -/
theorem wp_keepL {ops : Array Oper} {rest : List Oper} {o : Oper} {a : Act} {Q : Exit → Act → World → Prop} (s x : Operand) (hgd : o.guard = none)
    (ho : o.op = .call { callee := .builtin .append, args := #[s, x], argTypes := #[30, 30] })
    (b : World) (c : Nat) (H : PS w b q T lm A lr vm ma vl lb) {W : World} (hs : a.eval s = vl) (hx : a.eval x = .slice (some ⟨b.heap.size, 0, none⟩) 1 1) (hW : W = b.alloc (.cells #[.slice A lr.length c] 28 (0, 0))) (hn : lb.length ≤ 1000)
    (h : ∀ v' w', PS w w' q T lm A lr vm ma v' (lb ++ [((A, c), lr)]) → wpList Try.prog ops Q rest (a.put o.dst v') w') : wpList Try.prog ops Q (o :: rest) a W := by
  obtain ⟨i0, hi, hz0, hz1, hz2⟩ := info_parts infoL
  subst hW
  have hal := H.lists.alloc (.cells #[.slice A lr.length c] 28 (0, 0))
  refine wpList_append_own_at (P := Try.prog) _ hgd s x 30 ho (q + 1) 28 i0 _ 1 24 Try.underlying30 hi hz0 hz1 hz2 rfl (by decide) vl lb.length (lb.map encL) hs hal ⟨b.heap.size, 0, none⟩ 1 1 [encL ((A, c), lr)] hx rfl (cell_one _ _ _) (by intro u hu; simp [encL] at hu; subst hu; rfl) (by unfold maxLen; omega) (by omega) (by have := H.lt; simp; omega) ?_
  intro v' w' h1 h2 _ _
  exact h v' w' (H.keepL h1 h2)
theorem encM_get : ∀ (l : List (Tr Int × List (Int × Int))) (i : Nat) (p : Tr Int × List (Int × Int)), l[i]? = some p → (l.flatMap encM)[i * 2]? = some oF ∧ (l.flatMap encM)[i * 2 + 1]? = some (.pointer p.1.ad)
  | [], i, p, h => by cases h
  | q :: t, 0, p, h => by
    simp at h; subst h
    exact ⟨rfl, rfl⟩
  | q :: t, i + 1, p, h => by
    have := encM_get t i p (by simpa using h)
    rw [List.flatMap_cons, show (i + 1) * 2 = i * 2 + 1 + 1 by omega]
    exact this
theorem PS.atM (h : PS w W q T lm A lr vm ma vl lb) {i : Nat} {e : Tr Int × List (Int × Int)} (he : ma[i]? = some e) :
    ∃ g c, vm = .slice (some ⟨g, 0, none⟩) ma.length c ∧ W.cell? ⟨g, i * 2, none⟩ = some oF ∧ W.cell? ⟨g, i * 2 + 1, none⟩ = some (.pointer e.1.ad) ∧ DI.MapL id W e.1 e.2 := by
  have hi := (List.getElem?_eq_some_iff.1 he).1
  obtain ⟨g, c, e1, -, -⟩ := h.maps.form (by omega)
  have hm := h.maps
  rw [e1] at hm
  obtain ⟨e2, e3⟩ := encM_get ma i e he
  exact ⟨g, c, e1, (hm.cellAt (i * 2) (by omega)).trans e2, (hm.cellAt (i * 2 + 1) (by omega)).trans e3, h.eachM e (List.mem_of_getElem? he)⟩
theorem PS.atL (h : PS w W q T lm A lr vm ma vl lb) {i : Nat} {e : (Option Addr × Nat) × List (Int × Int)} (he : lb[i]? = some e) :
    ∃ g c, vl = .slice (some ⟨g, 0, none⟩) lb.length c ∧ W.cell? ⟨g, i, none⟩ = some (.slice e.1.1 e.2.length e.1.2) ∧ RowQ W e.1.1 e.2 := by
  have hi := (List.getElem?_eq_some_iff.1 he).1
  obtain ⟨g, c, e1, -, -⟩ := h.lists.form (by omega)
  have hm := h.lists
  rw [e1] at hm
  refine ⟨g, c, e1, (hm.cellAt i (by omega)).trans ?_, h.eachL e (List.mem_of_getElem? he)⟩
  rw [List.getElem?_map, he]; rfl
end Go.Proofs.Ythkceffnfhdjhaa
