/-
  A LIST OF TUPLES THAT A CALL BUILDS BY append: one more tuple, in the words of 'Grew'.
-/
import Derived.Test.YtgfgfggoofjeeaaTRow
import Derived.Maps.AppendAt
import Derived.Deep.AppendLies
import Derived.Laws.OwnMore
import Derived.OwnWalk
namespace Go.Proofs.Ytgfgfggoofjeeaa
open Go.RowKit Go.Sort

/-- the cells of a list of tuples -/
def flat (l : List Tup) : List Value := l.flatMap enc
theorem flat_len (l : List Tup) : (flat l).length = l.length * 6 := by
  induction l with
  | nil => rfl
  | cons x r ih =>
    show (enc x ++ flat r).length = _
    rw [List.length_append, ih, enc_len, List.length_cons]; omega
theorem flat_snoc (l : List Tup) (x : Tup) : flat (l ++ [x]) = flat l ++ enc x := by simp [flat]
theorem flat_app (l m : List Tup) : flat (l ++ m) = flat l ++ flat m := by simp [flat]
theorem flat_get : ∀ (l : List Tup) (i c : Nat) (h : i < l.length) (_ : c < 6), (flat l)[i * 6 + c]? = (enc l[i])[c]?
  | x :: r, 0, c, _, hc => by
    show (enc x ++ flat r)[0 * 6 + c]? = _
    rw [Nat.zero_mul, Nat.zero_add, List.getElem?_append_left (by rw [enc_len]; omega)]; rfl
  | x :: r, i + 1, c, h, hc => by
    show (enc x ++ flat r)[(i + 1) * 6 + c]? = _
    rw [List.getElem?_append_right (by rw [enc_len]; omega), enc_len, show (i + 1) * 6 + c - 6 = i * 6 + c by omega, flat_get r i c (by simpa using h) hc]
    rfl
theorem enc_lt {x : Tup} {c : Nat} {v : Value} (h : (enc x)[c]? = some v) : c < 6 := by
  have := (List.getElem?_eq_some_iff.1 h).1
  rwa [enc_len] at this
theorem enc_one (x : Tup) : ∀ u ∈ enc x, u.oneCell' = true := fun u hu => by
  simp [enc] at hu
  rcases hu with h | h | h | h | h | h <;> subst h <;> rfl
theorem flat_one (l : List Tup) : ∀ u ∈ flat l, u.oneCell' = true := fun u hu => by
  obtain ⟨x, _, hx⟩ := List.mem_flatMap.1 hu
  exact enc_one x u hx

/-- the call's own list -/
def Own (w : World) (base : Nat) (v : Value) (l : List Tup) : Prop := w.ownsRow base 44 6 v l.length (flat l)
section
variable {w w' : World} {base : Nat} {v : Value} {l : List Tup}
theorem Own.nil (w : World) (base : Nat) : Own w base (.slice none 0 0) [] := World.ownsRow_nil _ _ _ _
theorem Own.lt (h : Own w base v l) : ∀ k, v.ownBlock = some k → base ≤ k ∧ k < w.heap.size := World.ownsRow.lt h
/-- as a slice that reads as l -/
theorem Own.row (h : Own w base v l) : ∃ A c, v = .slice A l.length c ∧ Row w A l ∧ l.length ≤ c ∧ c ≤ maxLen := by
  rcases h.2 with ⟨rfl, hn⟩ | ⟨g, cap, cur, rfl, hb, hg, hc, hm, hsz, ht⟩
  · refine ⟨none, 0, by rw [hn], ?_, by omega, by decide⟩
    rw [List.eq_nil_of_length_eq_zero hn]; exact Row.nil _ _
  · refine ⟨_, cap, rfl, fun _ => ⟨g, 0, rfl, ?_, fun i hi c u hu => ?_⟩, hc, hm⟩
    · exact (Own.lt (w := w) (base := base) (v := .slice (some ⟨g, 0, none⟩) l.length cap) (l := l) h g rfl).2
    · have hlt := enc_lt hu
      have h1 := World.ownsRow.cellAt h (i * 6 + c) (by have := Nat.mul_le_mul_right 6 (show i + 1 ≤ l.length from hi); omega)
      rw [flat_get l i c hi hlt, hu] at h1
      rw [Nat.zero_add]; exact h1
theorem Own.below (h : Own w base v l) (hb : Below w.heap.size w w') : Own w' base v l := by
  refine ⟨h.1, ?_⟩
  rcases h.2 with hn | ⟨g, cap, cur, rfl, h1, hg, rest⟩
  · exact .inl hn
  · exact .inr ⟨g, cap, cur, rfl, h1, (hb.block g (Own.lt (w := w) (base := base) (v := .slice (some ⟨g, 0, none⟩) l.length cap) (l := l) h g rfl).2).trans hg, rest⟩
theorem Own.gw (h : Own w base v l) (hb : Grew w w') : Own w' base v l := h.below hb.toBelow
end

theorem gw_grown {a b c : World} {row : Option Nat} (h : Grew a b) (hg : b.grownBy c row) (hd : b.drawn ≤ c.drawn) (hr : ∀ k, row = some k → a.heap.size ≤ k) : Grew a c :=
  ⟨h.toBelow.grown hg h.toBelow.size hr, Nat.le_trans h.drawn hd⟩

/-- append draws, it never takes a draw back -/
theorem app_drawn {P : Program} (w : World) (base : Nat) (t ty e : TypeId) (i : TypeInfo) (z : Value) (ht : P.underlying t = some (.slice e)) (hi : P.info? e = some i) (hz : i.zero = some z)
    (v : Value) (n : Nat) (xs : List Value) (hown : w.ownsRow base e i.size v n xs)
    (a : Addr) (m c : Nat) (news : List Value) (hl : news.length = m * i.size) (hnews : ∀ j u, news[j]? = some u → w.cell? (a.add j) = some u) (h1 : ∀ u ∈ news, u.oneCell' = true)
    (hm : 0 < m) (h63 : n + m ≤ maxLen) (hbytes : (n + m) * i.bytes ≤ 140737488355328) {v' : Value} {w' : World}
    (hr : (Builtin.append_ #[t, t] ty #[v, .slice (some a) m c]).run P w = .ok v' w') : w.drawn ≤ w'.drawn := by
  unfold maxLen at h63
  rcases hown.2 with ⟨rfl, rfl⟩ | ⟨g, cap, cur, rfl, hbg, hg, hnc, hcm, hcs, htake⟩
  · rw [run_append_nil (P := P) w t ty e i z ht hi hz a m c news hl hnews hm (by omega) (by rw [Nat.zero_add] at hbytes; omega)] at hr
    injection hr with _ h2
    rw [← h2]; exact Nat.le_succ _
  · by_cases hroom : n + m ≤ cap
    · have hfit : n * i.size + news.length ≤ cur.size := by rw [hl, hcs, ← Nat.add_mul]; exact Nat.mul_le_mul_right _ hroom
      rw [run_append_room (P := P) w t ty e i ht hi g n cap cur hg a m c news hl hnews h1 hroom hfit] at hr
      injection hr with _ h2
      rw [← h2]; exact Nat.le_refl _
    · rw [run_append_grow (P := P) w t ty e i z ht hi hz ⟨g, 0, none⟩ n cap xs hown.1 (hown.cells (g := g) rfl) a m c news hl hnews (by omega) (by omega) (growslice_fits (by omega) hbytes)] at hr
      injection hr with _ h2
      rw [← h2]; exact Nat.le_succ _

/-- the zero tuple -/
def zT : Value := .agg #[.string ⟨#[]⟩, .string ⟨#[]⟩, .string ⟨#[]⟩, .string ⟨#[]⟩, .string ⟨#[]⟩, .string ⟨#[]⟩]
theorem infoT : (Try.prog.info? 44).map (fun i => (i.zero, i.size, i.bytes)) = some (some zT, 6, 96) := by kernel_rfl
/-- 'append(out, y)' -/
theorem run_app (w : World) (base : Nat) (ty : TypeId) (v : Value) (l : List Tup) (hown : Own w base v l) (g c : Nat) (y : Tup)
    (hy : ∀ j u, (enc y)[j]? = some u → w.cell? ⟨g, j, none⟩ = some u) (hn : l.length + 1 ≤ 100000) (hbase : base ≤ w.heap.size) :
    ∃ v' w', (Builtin.append_ #[28, 28] ty #[v, .slice (some ⟨g, 0, none⟩) 1 c]).run Try.prog w = .ok v' w' ∧ Own w' base v' (l ++ [y]) ∧ w.grownBy w' v.ownBlock ∧ w.drawn ≤ w'.drawn ∧
      (v'.ownBlock = v.ownBlock ∨ v'.ownBlock = some w.heap.size) := by
  obtain ⟨i0, hi, hz0, hz1, hz2⟩ := info_parts infoT
  have hc : ∀ j u, (enc y)[j]? = some u → w.cell? ((⟨g, 0, none⟩ : Addr).add j) = some u := fun j u hu => by
    unfold Addr.add
    split
    · rename_i hj; subst hj; exact hy 0 u hu
    · rw [Nat.zero_add]; exact hy j u hu
  obtain ⟨v', w', h1, h2, h3, _, h5⟩ := run_append_own_at (P := Try.prog) w base 28 ty 44 i0 _ 6 96 Try.underlying28 hi hz0 hz1 hz2 rfl (by decide) v l.length (flat l) hown ⟨g, 0, none⟩ 1 c (enc y) rfl hc (enc_one y) (by unfold maxLen; omega) (by omega) hbase
  refine ⟨v', w', h1, ?_, h3, ?_, h5⟩
  · unfold Own
    rw [List.length_append, flat_snoc]; exact h2
  · exact app_drawn (P := Try.prog) w base 28 ty 44 i0 _ Try.underlying28 hi hz0 v l.length (flat l) (by rw [hz1]; exact hown) ⟨g, 0, none⟩ 1 c (enc y) (by rw [hz1]; rfl) hc (enc_one y) (by omega) (by unfold maxLen; omega) (by rw [hz2]; omega) h1

theorem wp_app {ops : Array Oper} {rest : List Oper} {o : Oper} {a : Act} {w : World} {Q : Exit → Act → World → Prop} (s x : Operand) (hgd : o.guard = none)
    (ho : o.op = .call { callee := .builtin .append, args := #[s, x], argTypes := #[28, 28] })
    (base : Nat) (v : Value) (l : List Tup) (g c : Nat) (y : Tup) (hs : a.eval s = v) (hx : a.eval x = .slice (some ⟨g, 0, none⟩) 1 c) (hown : Own w base v l)
    (hy : ∀ j u, (enc y)[j]? = some u → w.cell? ⟨g, j, none⟩ = some u) (hn : l.length + 1 ≤ 100000) (hbase : base ≤ w.heap.size)
    (h : ∀ v' w', Own w' base v' (l ++ [y]) → w.grownBy w' v.ownBlock → w.drawn ≤ w'.drawn → wpList Try.prog ops Q rest (a.put o.dst v') w') : wpList Try.prog ops Q (o :: rest) a w := by
  obtain ⟨v', w', hr, h2, h3, h4, _⟩ := run_app w base o.type v l hown g c y hy hn hbase
  refine wpList_plain hgd fun K hK => ?_
  unfold Oper.wp execOp
  simp only [ho, resolve, invoke, builtin, Sem.run_bind, Sem.run_pure, Result.andThen_ok, List.map_toArray, List.map_cons, List.map_nil, hs, hx, hr]
  exact hK _ _ (h v' w' h2 h3 h4)

/-- the tuple that stands behind buildSlice -/
theorem new_cells (w : World) (x : Tup) (t : TypeId) : ∀ c v, (enc x)[c]? = some v → (w.alloc (.cells #[.string x.a, .string x.b, .string x.c, .string x.d, .string x.e, .string x.f] t)).cell? ⟨w.heap.size, c, none⟩ = some v := fun c v h => by
  rw [World.cell?_alloc_new]; simpa [enc] using h

end Go.Proofs.Ytgfgfggoofjeeaa
