/-
  A LIST OF GOALS: in memory, and built by append.
-/
import Derived.Test.YtfgjeflhhfjgeaaTOwn
namespace Go.Proofs.Ytfgjeflhhfjgeaa
open Go.RowKit Go.Sort

/-- a goal as plain data -/
structure Gl where
  a : ByteArray
  b : ByteArray
  c : ByteArray
  deriving DecidableEq, Inhabited
/-- the cells of a goal, its value, and the goal of a tuple -/
def encG (x : Gl) : List Value := [.string x.a, .string x.b, .string x.c]
def valG (x : Gl) : Value := .agg #[.string x.a, .string x.b, .string x.c]
def glT (t : Tup) : Gl := ⟨t.a, t.b, t.c⟩
/-- the slice of l lies at b, from o on -/
def LiesG (w : World) (b o : Nat) (l : List Gl) : Prop :=
  b < w.heap.size ∧ ∀ i, (h : i < l.length) → ∀ c v, (encG l[i])[c]? = some v → w.cell? ⟨b, o + i * 3 + c, none⟩ = some v
/-- a slice reads as l -/
def RowG (w : World) (A : Option Addr) (l : List Gl) : Prop := l ≠ [] → ∃ b o, A = some ⟨b, o, none⟩ ∧ LiesG w b o l

theorem encG_len (x : Gl) : (encG x).length = 3 := rfl
theorem LiesG.below {w w' : World} {b o : Nat} {l : List Gl} (h : LiesG w b o l) (hb : Below w.heap.size w w') : LiesG w' b o l :=
  ⟨Nat.lt_of_lt_of_le h.1 hb.size, fun i hi c v hv => (hb.cell (p := ⟨b, _, none⟩) h.1).trans (h.2 i hi c v hv)⟩
theorem RowG.below {w w' : World} {A : Option Addr} {l : List Gl} (h : RowG w A l) (hb : Below w.heap.size w w') : RowG w' A l := fun hl => by
  obtain ⟨b, o, e, hL⟩ := h hl
  exact ⟨b, o, e, hL.below hb⟩
theorem RowG.gw {w w' : World} {A : Option Addr} {l : List Gl} (h : RowG w A l) (hb : Grew w w') : RowG w' A l := h.below hb.toBelow
theorem RowG.at_ {w : World} {A : Option Addr} {l : List Gl} (h : RowG w A l) {k : Nat} (hk : k < l.length) : ∃ b o, A = some ⟨b, o, none⟩ ∧ LiesG w b o l := h (fun e => by subst e; simp at hk)
theorem RowG.nil (w : World) (A : Option Addr) : RowG w A [] := fun h => absurd rfl h

/-- the cells of a list of tuples -/
def flatG (l : List Gl) : List Value := l.flatMap encG
theorem flatG_len (l : List Gl) : (flatG l).length = l.length * 3 := by
  induction l with
  | nil => rfl
  | cons x r ih =>
    show (encG x ++ flatG r).length = _
    rw [List.length_append, ih, encG_len, List.length_cons]; omega
theorem flatG_snoc (l : List Gl) (x : Gl) : flatG (l ++ [x]) = flatG l ++ encG x := by simp [flatG]
theorem flatG_app (l m : List Gl) : flatG (l ++ m) = flatG l ++ flatG m := by simp [flatG]
theorem flatG_get : ∀ (l : List Gl) (i c : Nat) (h : i < l.length) (_ : c < 3), (flatG l)[i * 3 + c]? = (encG l[i])[c]?
  | x :: r, 0, c, _, hc => by
    show (encG x ++ flatG r)[0 * 3 + c]? = _
    rw [Nat.zero_mul, Nat.zero_add, List.getElem?_append_left (by rw [encG_len]; omega)]; rfl
  | x :: r, i + 1, c, h, hc => by
    show (encG x ++ flatG r)[(i + 1) * 3 + c]? = _
    rw [List.getElem?_append_right (by rw [encG_len]; omega), encG_len, show (i + 1) * 3 + c - 3 = i * 3 + c by omega, flatG_get r i c (by simpa using h) hc]
    rfl
theorem encG_lt {x : Gl} {c : Nat} {v : Value} (h : (encG x)[c]? = some v) : c < 3 := by
  have := (List.getElem?_eq_some_iff.1 h).1
  rwa [encG_len] at this
theorem encG_one (x : Gl) : ∀ u ∈ encG x, u.oneCell' = true := fun u hu => by
  simp [encG] at hu
  rcases hu with h | h | h <;> subst h <;> rfl
theorem flatG_one (l : List Gl) : ∀ u ∈ flatG l, u.oneCell' = true := fun u hu => by
  obtain ⟨x, _, hx⟩ := List.mem_flatMap.1 hu
  exact encG_one x u hx

/-- the call's own list -/
def OwnG (w : World) (base : Nat) (v : Value) (l : List Gl) : Prop := w.ownsRow base 44 3 v l.length (flatG l)
section
variable {w w' : World} {base : Nat} {v : Value} {l : List Gl}
theorem OwnG.nil (w : World) (base : Nat) : OwnG w base (.slice none 0 0) [] := World.ownsRow_nil _ _ _ _
theorem OwnG.lt (h : OwnG w base v l) : ∀ k, v.ownBlock = some k → base ≤ k ∧ k < w.heap.size := World.ownsRow.lt h
/-- as a slice that reads as l -/
theorem OwnG.row (h : OwnG w base v l) : ∃ A c, v = .slice A l.length c ∧ RowG w A l ∧ l.length ≤ c ∧ c ≤ maxLen := by
  rcases h.2 with ⟨rfl, hn⟩ | ⟨g, cap, cur, rfl, hb, hg, hc, hm, hsz, ht⟩
  · refine ⟨none, 0, by rw [hn], ?_, by omega, by decide⟩
    rw [List.eq_nil_of_length_eq_zero hn]; exact RowG.nil _ _
  · refine ⟨_, cap, rfl, fun _ => ⟨g, 0, rfl, ?_, fun i hi c u hu => ?_⟩, hc, hm⟩
    · exact (OwnG.lt (w := w) (base := base) (v := .slice (some ⟨g, 0, none⟩) l.length cap) (l := l) h g rfl).2
    · have hlt := encG_lt hu
      have h1 := World.ownsRow.cellAt h (i * 3 + c) (by have := Nat.mul_le_mul_right 3 (show i + 1 ≤ l.length from hi); omega)
      rw [flatG_get l i c hi hlt, hu] at h1
      rw [Nat.zero_add]; exact h1
theorem OwnG.below (h : OwnG w base v l) (hb : Below w.heap.size w w') : OwnG w' base v l := by
  refine ⟨h.1, ?_⟩
  rcases h.2 with hn | ⟨g, cap, cur, rfl, h1, hg, rest⟩
  · exact .inl hn
  · exact .inr ⟨g, cap, cur, rfl, h1, (hb.block g (OwnG.lt (w := w) (base := base) (v := .slice (some ⟨g, 0, none⟩) l.length cap) (l := l) h g rfl).2).trans hg, rest⟩
theorem OwnG.gw (h : OwnG w base v l) (hb : Grew w w') : OwnG w' base v l := h.below hb.toBelow
end

/-- the zero tuple -/
def zG : Value := .agg #[.string ⟨#[]⟩, .string ⟨#[]⟩, .string ⟨#[]⟩]
theorem infoG : (Try.prog.info? 44).map (fun i => (i.zero, i.size, i.bytes)) = some (some zG, 3, 48) := by kernel_rfl
/-- 'append(out, y)' -/
theorem run_appG (w : World) (base : Nat) (ty : TypeId) (v : Value) (l : List Gl) (hown : OwnG w base v l) (g c : Nat) (y : Gl)
    (hy : ∀ j u, (encG y)[j]? = some u → w.cell? ⟨g, j, none⟩ = some u) (hn : l.length + 1 ≤ 100000) (hbase : base ≤ w.heap.size) :
    ∃ v' w', (Builtin.append_ #[68, 68] ty #[v, .slice (some ⟨g, 0, none⟩) 1 c]).run Try.prog w = .ok v' w' ∧ OwnG w' base v' (l ++ [y]) ∧ w.grownBy w' v.ownBlock ∧ w.drawn ≤ w'.drawn ∧
      (v'.ownBlock = v.ownBlock ∨ v'.ownBlock = some w.heap.size) := by
  obtain ⟨i0, hi, hz0, hz1, hz2⟩ := info_parts infoG
  have hc : ∀ j u, (encG y)[j]? = some u → w.cell? ((⟨g, 0, none⟩ : Addr).add j) = some u := fun j u hu => by
    unfold Addr.add
    split
    · rename_i hj; subst hj; exact hy 0 u hu
    · rw [Nat.zero_add]; exact hy j u hu
  obtain ⟨v', w', h1, h2, h3, _, h5⟩ := run_append_own_at (P := Try.prog) w base 68 ty 44 i0 _ 3 48 Try.underlying68 hi hz0 hz1 hz2 rfl (by decide) v l.length (flatG l) hown ⟨g, 0, none⟩ 1 c (encG y) rfl hc (encG_one y) (by unfold maxLen; omega) (by omega) hbase
  refine ⟨v', w', h1, ?_, h3, ?_, h5⟩
  · unfold OwnG
    rw [List.length_append, flatG_snoc]; exact h2
  · exact app_drawn (P := Try.prog) w base 68 ty 44 i0 _ Try.underlying68 hi hz0 v l.length (flatG l) (by rw [hz1]; exact hown) ⟨g, 0, none⟩ 1 c (encG y) (by rw [hz1]; rfl) hc (encG_one y) (by omega) (by unfold maxLen; omega) (by rw [hz2]; omega) h1

theorem wp_appG {ops : Array Oper} {rest : List Oper} {o : Oper} {a : Act} {w : World} {Q : Exit → Act → World → Prop} (s x : Operand) (hgd : o.guard = none)
    (ho : o.op = .call { callee := .builtin .append, args := #[s, x], argTypes := #[68, 68] })
    (base : Nat) (v : Value) (l : List Gl) (g c : Nat) (y : Gl) (hs : a.eval s = v) (hx : a.eval x = .slice (some ⟨g, 0, none⟩) 1 c) (hown : OwnG w base v l)
    (hy : ∀ j u, (encG y)[j]? = some u → w.cell? ⟨g, j, none⟩ = some u) (hn : l.length + 1 ≤ 100000) (hbase : base ≤ w.heap.size)
    (h : ∀ v' w', OwnG w' base v' (l ++ [y]) → w.grownBy w' v.ownBlock → w.drawn ≤ w'.drawn → wpList Try.prog ops Q rest (a.put o.dst v') w') : wpList Try.prog ops Q (o :: rest) a w := by
  obtain ⟨v', w', hr, h2, h3, h4, _⟩ := run_appG w base o.type v l hown g c y hy hn hbase
  refine wpList_plain hgd fun K hK => ?_
  unfold Oper.wp execOp
  simp only [ho, resolve, invoke, builtin, Sem.run_bind, Sem.run_pure, Result.andThen_ok, List.map_toArray, List.map_cons, List.map_nil, hs, hx, hr]
  exact hK _ _ (h v' w' h2 h3 h4)

/-- the tuple that stands behind buildSlice -/
theorem new_cellsG (w : World) (x : Gl) (t : TypeId) : ∀ c v, (encG x)[c]? = some v → (w.alloc (.cells #[.string x.a, .string x.b, .string x.c] t)).cell? ⟨w.heap.size, c, none⟩ = some v := fun c v h => by
  rw [World.cell?_alloc_new]; simpa [encG] using h

end Go.Proofs.Ytfgjeflhhfjgeaa
