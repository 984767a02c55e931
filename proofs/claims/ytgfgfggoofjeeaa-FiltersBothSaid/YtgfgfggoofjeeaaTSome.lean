/-
  'append(out, l...)', and THE CONTRACT of the reference's Some.
-/
import Derived.Test.YtgfgfggoofjeeaaTRef
namespace Go.Proofs.Ytgfgfggoofjeeaa
open Go.RowKit Go.Sort

theorem add_zero (b : Nat) (j : Nat) : ((⟨b, 0, none⟩ : Addr).add j) = ⟨b, j, none⟩ := by
  unfold Addr.add; split
  · rename_i h; subst h; rfl
  · simp
theorem flat_at {w : World} {b o : Nat} {m : List Tup} (h : Lies w b o m) : ∀ j u, (flat m)[j]? = some u → w.cell? ((⟨b, o, none⟩ : Addr).add j) = some u := fun j u hu => by
  have hj : j < m.length * 6 := by
    have := (List.getElem?_eq_some_iff.1 hu).1
    rwa [flat_len] at this
  have hi : j / 6 < m.length := by omega
  have hc : j % 6 < 6 := Nat.mod_lt _ (by omega)
  have e : j = j / 6 * 6 + j % 6 := by omega
  have h1 := flat_get m (j / 6) (j % 6) hi hc
  rw [← e, hu] at h1
  have h2 := h.2 (j / 6) hi (j % 6) u h1.symm
  unfold Addr.add
  split
  · rename_i hz; subst hz; simpa using h2
  · rw [show o + j / 6 * 6 + j % 6 = o + j by omega] at h2; exact h2

theorem run_apps (w : World) (base : Nat) (ty : TypeId) (v : Value) (l : List Tup) (hown : Own w base v l) (A : Option Addr) (m : List Tup) (c : Nat) (hm : Row w A m) (hn : l.length + m.length ≤ 100000) (hbase : base ≤ w.heap.size) :
    ∃ v' w', (Builtin.append_ #[28, 28] ty #[v, .slice A m.length c]).run Try.prog w = .ok v' w' ∧ Own w' base v' (l ++ m) ∧ w.grownBy w' v.ownBlock ∧ w.drawn ≤ w'.drawn := by
  obtain ⟨i0, hi, hz0, hz1, hz2⟩ := info_parts infoT
  by_cases h0 : m = []
  · subst h0
    have hrun : ∀ A : Option Addr, (Builtin.append_ #[28, 28] ty #[v, .slice A ([] : List Tup).length c]).run Try.prog w = .ok v w := fun A => by
      rcases hown.2 with ⟨rfl, hl⟩ | ⟨g, cap, cur, rfl, _, _, hnc, _⟩
      · cases A <;> simp [Builtin.append_, run_underlying Try.underlying28, sizeOf, typeInfo, hi, Builtin.lenOf, Builtin.firstCells, loadCells, loadCellsFrom]
      · cases A <;> simp [Builtin.append_, run_underlying Try.underlying28, sizeOf, typeInfo, hi, Builtin.lenOf, Builtin.firstCells, hnc, storeCells, loadCells, loadCellsFrom]
    exact ⟨v, w, hrun A, by rw [List.append_nil]; exact hown, ⟨rfl, rfl, rfl, Nat.le_refl _, fun _ _ _ => rfl⟩, Nat.le_refl _⟩
  · obtain ⟨b, o, rfl, hL⟩ := hm h0
    have hpos : 0 < m.length := List.length_pos_iff.2 h0
    obtain ⟨v', w', h1, h2, h3, _, h5⟩ := run_append_own_at (P := Try.prog) w base 28 ty 44 i0 _ 6 96 Try.underlying28 hi hz0 hz1 hz2 rfl (by decide) v l.length (flat l) hown ⟨b, o, none⟩ m.length c (flat m) (flat_len m) (flat_at hL) (flat_one m) (by unfold maxLen; omega) (by omega) hbase
    refine ⟨v', w', h1, ?_, h3, ?_⟩
    · unfold Own
      rw [List.length_append, flat_app]; exact h2
    · exact app_drawn (P := Try.prog) w base 28 ty 44 i0 _ Try.underlying28 hi hz0 v l.length (flat l) (by rw [hz1]; exact hown) ⟨b, o, none⟩ m.length c (flat m) (by rw [hz1]; exact flat_len m) (flat_at hL) (flat_one m) hpos (by unfold maxLen; omega) (by rw [hz2]; omega) h1

theorem wp_apps {ops : Array Oper} {rest : List Oper} {o : Oper} {a : Act} {w : World} {Q : Exit → Act → World → Prop} (s x : Operand) (hgd : o.guard = none)
    (ho : o.op = .call { callee := .builtin .append, args := #[s, x], argTypes := #[28, 28] })
    (base : Nat) (v : Value) (l : List Tup) (A : Option Addr) (m : List Tup) (c : Nat) (hs : a.eval s = v) (hx : a.eval x = .slice A m.length c) (hown : Own w base v l)
    (hm : Row w A m) (hn : l.length + m.length ≤ 100000) (hbase : base ≤ w.heap.size)
    (h : ∀ v' w', Own w' base v' (l ++ m) → w.grownBy w' v.ownBlock → w.drawn ≤ w'.drawn → wpList Try.prog ops Q rest (a.put o.dst v') w') : wpList Try.prog ops Q (o :: rest) a w := by
  obtain ⟨v', w', hr, h2, h3, h4⟩ := run_apps w base o.type v l hown A m c hm hn hbase
  refine wpList_plain hgd fun K hK => ?_
  unfold Oper.wp execOp
  simp only [ho, resolve, invoke, builtin, Sem.run_bind, Sem.run_pure, Result.andThen_ok, List.map_toArray, List.map_cons, List.map_nil, hs, hx, hr]
  exact hK _ _ (h v' w' h2 h3 h4)

/-- is a tuple wanted that is in the first list alone, in both, in the second one alone -/
def sel (a c b p q : Bool) : Bool := (p && !q && a) || (p && q && c) || (!p && q && b)
def flt (x y : List Tup) (a c b : Bool) (l : List Tup) : List Tup := l.filter fun t => sel a c b (decide (t ∈ x)) (decide (t ∈ y))
theorem flt_yes {x y : List Tup} {a c b p q : Bool} {l : List Tup} {k : Nat} (h : k < l.length) (hp : decide (l[k] ∈ x) = p) (hq : decide (l[k] ∈ y) = q) (hs : sel a c b p q = true) : flt x y a c b (l.take k) ++ [l[k]] = flt x y a c b (l.take (k + 1)) := by
  unfold flt; rw [List.take_succ_eq_append_getElem h, List.filter_append, List.filter_cons, hp, hq, hs]; rfl
theorem flt_no {x y : List Tup} {a c b p q : Bool} {l : List Tup} {k : Nat} (h : k < l.length) (hp : decide (l[k] ∈ x) = p) (hq : decide (l[k] ∈ y) = q) (hs : sel a c b p q = false) : flt x y a c b (l.take k) = flt x y a c b (l.take (k + 1)) := by
  unfold flt; rw [List.take_succ_eq_append_getElem h, List.filter_append, List.filter_cons, hp, hq, hs]; simp
theorem flt_len {x y : List Tup} {a c b : Bool} (l : List Tup) (k : Nat) (h : k ≤ l.length) : (flt x y a c b (l.take k)).length ≤ k := by
  have := List.length_filter_le (fun t => sel a c b (decide (t ∈ x)) (decide (t ∈ y))) (l.take k)
  unfold flt
  rw [List.length_take] at this; omega
theorem inI_of {x : Tup} {l : List Tup} {p : Bool} (h : decide (x ∈ l) = p) : inI x l = if p = true then 1 else 0 := by
  unfold inI; subst h; simp
/-- what Some returns -/
def someL (x y : List Tup) (a c b : Bool) : List Tup := srt cmpT (flt x y a c b (x ++ y))


end Go.Proofs.Ytgfgfggoofjeeaa
