/-
  A LIST OF GOALS: in memory, and built by append.
  '==' and '!=' OF TWO GOALS, and of two subjects.
  THE CONTRACT of sets' Goals.
  PLAIN FACTS about the tuples that the laws draw: they are small; sorted lists of them; a pair of bytes in a block.
  THE CONTRACT of the reference's With; the law's same and Change.
  THE CONTRACTS of cmp.Or at strings, at errors and at subjects.
  A RESULT THAT IS A FILTER, and three strings, in blocks of their own.
  THE CONTRACTS of filters.parseGoal and Parse.
  THE CONTRACT of filters.Parse.
  THE CONTRACTS of the law's small and lives (layer 6).
-/
import Derived.Test.YtgfgfggoofjeeaaGreatTOwn
import Derived.Test.YtgfgfggoofjeeaaGreatDTVw
import Derived.Test.YtgfgfggoofjeeaaGreatTFact
import Derived.Test.YtgfgfggoofjeeaaGreatTSome
import Derived.Test.YtgfgfggoofjeeaaGreatTOf
import Derived.Test.YtgfgfggoofjeeaaGreatFTak
namespace Go.Proofs.YtgfgfggoofjeeaaGreat
open Go.RowKit Go.Sort

/-- a goal as plain data -/
structure Gl where
  a : ByteArray
  b : ByteArray
  c : ByteArray
  deriving DecidableEq, Inhabited
/-- the cells of a goal, its value, and the goal of a tuple -/
def encG (x : Gl) : List Value := [.string x.a, .string x.b, .string x.c]
def valG (x : Gl) : Value := .agg #[.string x.a, .string x.b, .string x.c]
def glT (t : Tup) : Gl := ⟨t.a, t.b, t.c⟩
/-- the slice of l lies at b, from o on -/
def LiesG (w : World) (b o : Nat) (l : List Gl) : Prop :=
  b < w.heap.size ∧ ∀ i, (h : i < l.length) → ∀ c v, (encG l[i])[c]? = some v → w.cell? ⟨b, o + i * 3 + c, none⟩ = some v
/-- a slice reads as l -/
def RowG (w : World) (A : Option Addr) (l : List Gl) : Prop := l ≠ [] → ∃ b o, A = some ⟨b, o, none⟩ ∧ LiesG w b o l

theorem encG_len (x : Gl) : (encG x).length = 3 := rfl
theorem LiesG.below {w w' : World} {b o : Nat} {l : List Gl} (h : LiesG w b o l) (hb : Below w.heap.size w w') : LiesG w' b o l :=
  ⟨Nat.lt_of_lt_of_le h.1 hb.size, fun i hi c v hv => (hb.cell (p := ⟨b, _, none⟩) h.1).trans (h.2 i hi c v hv)⟩
theorem RowG.below {w w' : World} {A : Option Addr} {l : List Gl} (h : RowG w A l) (hb : Below w.heap.size w w') : RowG w' A l := fun hl => by
  obtain ⟨b, o, e, hL⟩ := h hl
  exact ⟨b, o, e, hL.below hb⟩
theorem RowG.gw {w w' : World} {A : Option Addr} {l : List Gl} (h : RowG w A l) (hb : Grew w w') : RowG w' A l := h.below hb.toBelow
theorem RowG.at_ {w : World} {A : Option Addr} {l : List Gl} (h : RowG w A l) {k : Nat} (hk : k < l.length) : ∃ b o, A = some ⟨b, o, none⟩ ∧ LiesG w b o l := h (fun e => by subst e; simp at hk)
theorem RowG.nil (w : World) (A : Option Addr) : RowG w A [] := fun h => absurd rfl h

/-- the cells of a list of tuples -/
def flatG (l : List Gl) : List Value := l.flatMap encG
theorem flatG_len (l : List Gl) : (flatG l).length = l.length * 3 := by
  induction l with
  | nil => rfl
  | cons x r ih =>
    show (encG x ++ flatG r).length = _
    rw [List.length_append, ih, encG_len, List.length_cons]; omega
theorem flatG_snoc (l : List Gl) (x : Gl) : flatG (l ++ [x]) = flatG l ++ encG x := by simp [flatG]
theorem flatG_app (l m : List Gl) : flatG (l ++ m) = flatG l ++ flatG m := by simp [flatG]
theorem flatG_get : ∀ (l : List Gl) (i c : Nat) (h : i < l.length) (_ : c < 3), (flatG l)[i * 3 + c]? = (encG l[i])[c]?
  | x :: r, 0, c, _, hc => by
    show (encG x ++ flatG r)[0 * 3 + c]? = _
    rw [Nat.zero_mul, Nat.zero_add, List.getElem?_append_left (by rw [encG_len]; omega)]; rfl
  | x :: r, i + 1, c, h, hc => by
    show (encG x ++ flatG r)[(i + 1) * 3 + c]? = _
    rw [List.getElem?_append_right (by rw [encG_len]; omega), encG_len, show (i + 1) * 3 + c - 3 = i * 3 + c by omega, flatG_get r i c (by simpa using h) hc]
    rfl
theorem encG_lt {x : Gl} {c : Nat} {v : Value} (h : (encG x)[c]? = some v) : c < 3 := by
  have := (List.getElem?_eq_some_iff.1 h).1
  rwa [encG_len] at this
theorem encG_one (x : Gl) : ∀ u ∈ encG x, u.oneCell' = true := fun u hu => by
  simp [encG] at hu
  rcases hu with h | h | h <;> subst h <;> rfl
theorem flatG_one (l : List Gl) : ∀ u ∈ flatG l, u.oneCell' = true := fun u hu => by
  obtain ⟨x, _, hx⟩ := List.mem_flatMap.1 hu
  exact encG_one x u hx

/-- the call's own list -/
def OwnG (w : World) (base : Nat) (v : Value) (l : List Gl) : Prop := w.ownsRow base 45 3 v l.length (flatG l)
section
variable {w w' : World} {base : Nat} {v : Value} {l : List Gl}
theorem OwnG.nil (w : World) (base : Nat) : OwnG w base (.slice none 0 0) [] := World.ownsRow_nil _ _ _ _
theorem OwnG.lt (h : OwnG w base v l) : ∀ k, v.ownBlock = some k → base ≤ k ∧ k < w.heap.size := World.ownsRow.lt h
/-- as a slice that reads as l -/
theorem OwnG.row (h : OwnG w base v l) : ∃ A c, v = .slice A l.length c ∧ RowG w A l ∧ l.length ≤ c ∧ c ≤ maxLen := by
  rcases h.2 with ⟨rfl, hn⟩ | ⟨g, cap, cur, rfl, hb, hg, hc, hm, hsz, ht⟩
  · refine ⟨none, 0, by rw [hn], ?_, by omega, by decide⟩
    rw [List.eq_nil_of_length_eq_zero hn]; exact RowG.nil _ _
  · refine ⟨_, cap, rfl, fun _ => ⟨g, 0, rfl, ?_, fun i hi c u hu => ?_⟩, hc, hm⟩
    · exact (OwnG.lt (w := w) (base := base) (v := .slice (some ⟨g, 0, none⟩) l.length cap) (l := l) h g rfl).2
    · have hlt := encG_lt hu
      have h1 := World.ownsRow.cellAt h (i * 3 + c) (by have := Nat.mul_le_mul_right 3 (show i + 1 ≤ l.length from hi); omega)
      rw [flatG_get l i c hi hlt, hu] at h1
      rw [Nat.zero_add]; exact h1
theorem OwnG.below (h : OwnG w base v l) (hb : Below w.heap.size w w') : OwnG w' base v l := by
  refine ⟨h.1, ?_⟩
  rcases h.2 with hn | ⟨g, cap, cur, rfl, h1, hg, rest⟩
  · exact .inl hn
  · exact .inr ⟨g, cap, cur, rfl, h1, (hb.block g (OwnG.lt (w := w) (base := base) (v := .slice (some ⟨g, 0, none⟩) l.length cap) (l := l) h g rfl).2).trans hg, rest⟩
theorem OwnG.gw (h : OwnG w base v l) (hb : Grew w w') : OwnG w' base v l := h.below hb.toBelow
end

/-- the zero tuple -/
def zG : Value := .agg #[.string ⟨#[]⟩, .string ⟨#[]⟩, .string ⟨#[]⟩]
theorem infoG : (Tryz.prog.info? 45).map (fun i => (i.zero, i.size, i.bytes)) = some (some zG, 3, 48) := by kernel_rfl
/-- 'append(out, y)' -/
theorem run_appG (w : World) (base : Nat) (ty : TypeId) (v : Value) (l : List Gl) (hown : OwnG w base v l) (g c : Nat) (y : Gl)
    (hy : ∀ j u, (encG y)[j]? = some u → w.cell? ⟨g, j, none⟩ = some u) (hn : l.length + 1 ≤ 100000) (hbase : base ≤ w.heap.size) :
    ∃ v' w', (Builtin.append_ #[56, 56] ty #[v, .slice (some ⟨g, 0, none⟩) 1 c]).run Tryz.prog w = .ok v' w' ∧ OwnG w' base v' (l ++ [y]) ∧ w.grownBy w' v.ownBlock ∧ w.drawn ≤ w'.drawn ∧
      (v'.ownBlock = v.ownBlock ∨ v'.ownBlock = some w.heap.size) := by
  obtain ⟨i0, hi, hz0, hz1, hz2⟩ := info_parts infoG
  have hc : ∀ j u, (encG y)[j]? = some u → w.cell? ((⟨g, 0, none⟩ : Addr).add j) = some u := fun j u hu => by
    unfold Addr.add
    split
    · rename_i hj; subst hj; exact hy 0 u hu
    · rw [Nat.zero_add]; exact hy j u hu
  obtain ⟨v', w', h1, h2, h3, _, h5⟩ := run_append_own_at (P := Tryz.prog) w base 56 ty 45 i0 _ 3 48 Tryz.underlying56 hi hz0 hz1 hz2 rfl (by decide) v l.length (flatG l) hown ⟨g, 0, none⟩ 1 c (encG y) rfl hc (encG_one y) (by unfold maxLen; omega) (by omega) hbase
  refine ⟨v', w', h1, ?_, h3, ?_, h5⟩
  · unfold OwnG
    rw [List.length_append, flatG_snoc]; exact h2
  · exact app_drawn (P := Tryz.prog) w base 56 ty 45 i0 _ Tryz.underlying56 hi hz0 v l.length (flatG l) (by rw [hz1]; exact hown) ⟨g, 0, none⟩ 1 c (encG y) (by rw [hz1]; rfl) hc (encG_one y) (by omega) (by unfold maxLen; omega) (by rw [hz2]; omega) h1

theorem wp_appG {ops : Array Oper} {rest : List Oper} {o : Oper} {a : Act} {w : World} {Q : Exit → Act → World → Prop} (s x : Operand) (hgd : o.guard = none)
    (ho : o.op = .call { callee := .builtin .append, args := #[s, x], argTypes := #[56, 56] })
    (base : Nat) (v : Value) (l : List Gl) (g c : Nat) (y : Gl) (hs : a.eval s = v) (hx : a.eval x = .slice (some ⟨g, 0, none⟩) 1 c) (hown : OwnG w base v l)
    (hy : ∀ j u, (encG y)[j]? = some u → w.cell? ⟨g, j, none⟩ = some u) (hn : l.length + 1 ≤ 100000) (hbase : base ≤ w.heap.size)
    (h : ∀ v' w', OwnG w' base v' (l ++ [y]) → w.grownBy w' v.ownBlock → w.drawn ≤ w'.drawn → wpList Tryz.prog ops Q rest (a.put o.dst v') w') : wpList Tryz.prog ops Q (o :: rest) a w := by
  obtain ⟨v', w', hr, h2, h3, h4, _⟩ := run_appG w base o.type v l hown g c y hy hn hbase
  refine wpList_plain hgd fun K hK => ?_
  unfold Oper.wp execOp
  simp only [ho, resolve, invoke, builtin, Sem.run_bind, Sem.run_pure, Result.andThen_ok, List.map_toArray, List.map_cons, List.map_nil, hs, hx, hr]
  exact hK _ _ (h v' w' h2 h3 h4)

/-- the tuple that stands behind buildSlice -/
theorem new_cellsG (w : World) (x : Gl) (t : TypeId) : ∀ c v, (encG x)[c]? = some v → (w.alloc (.cells #[.string x.a, .string x.b, .string x.c] t)).cell? ⟨w.heap.size, c, none⟩ = some v := fun c v h => by
  rw [World.cell?_alloc_new]; simpa [encG] using h

end Go.Proofs.YtgfgfggoofjeeaaGreat
namespace Go.Proofs.YtgfgfggoofjeeaaGreat
open Go.RowKit Go.Sort

theorem fieldsG : Tryz.prog.underlying 45 = some (.struct (Tryz.prog.fieldsOf 45)) := by kernel_rfl

set_option maxHeartbeats 1000000 in
theorem eqGl (x y : Gl) (w : World) : (Op.equalIn 10000 45 (valG x) (valG y)).run Tryz.prog w = .ok (decide (x = y)) w := by
  have hS := fieldsG
  have hp : Tryz.prog.stoodInHeld 45 = false := by kernel_rfl
  obtain ⟨a, b, c⟩ := x
  obtain ⟨a', b', c'⟩ := y
  simp only [valG]
  rw [show (10000 : Nat) = 9999 + 1 from rfl, run_equalIn_struct w 9999 45 _ _ hS hp]
  simp only [Program.fieldsOf, Tryz.underlying45]
  have tl : ∀ u v : ByteArray, u.toList = v.toList ↔ u = v := fun u v => ⟨toList_inj, fun h => by rw [h]⟩
  go_simp
  repeat' split
  all_goals simp_all
theorem exec_eqlG {o : Oper} {a : Act} {l r : Operand} {ty : TypeId} {x y : Gl} (ho : o.op = .binOp .eql 45 l r ty) (hl : a.eval l = valG x) (hr : a.eval r = valG y) (w : World) :
    (execOp a.eval o).run Tryz.prog w = .ok (.value (.bool (decide (x = y)))) w := by
  have hg := fun op p q => run_eqGuard_agg (P := Tryz.prog) w op 45 p q #[.string x.a, .string x.b, .string x.c] #[.string y.a, .string y.b, .string y.c] (by kernel_rfl)
  have he := eqGl x y w
  unfold execOp
  simp only [ho, hl, hr]
  simp only [valG] at he ⊢
  simp only [Sem.run_bind, hg, Result.andThen_ok, run_eql_struct, he, Sem.run_pure]
theorem exec_neqG {o : Oper} {a : Act} {l r : Operand} {ty : TypeId} {x y : Gl} (ho : o.op = .binOp .neq 45 l r ty) (hl : a.eval l = valG x) (hr : a.eval r = valG y) (w : World) :
    (execOp a.eval o).run Tryz.prog w = .ok (.value (.bool (!decide (x = y)))) w := by
  have hg := fun op p q => run_eqGuard_agg (P := Tryz.prog) w op 45 p q #[.string x.a, .string x.b, .string x.c] #[.string y.a, .string y.b, .string y.c] (by kernel_rfl)
  have he := eqGl x y w
  unfold execOp
  simp only [ho, hl, hr]
  simp only [valG] at he ⊢
  simp only [Sem.run_bind, hg, Result.andThen_ok, run_neq_struct, he, Sem.run_pure]

theorem quiet_eqlG {ops : Array Oper} {C : World → Prop} {Q : Act → Prop} {o : Oper} {rest : List Oper} {a : Act} {l r : Operand} {ty : TypeId} (x y : Gl) (b : Bool) (hb : decide (x = y) = b) (hg : o.guard = none)
    (ho : o.op = .binOp .eql 45 l r ty) (hl : a.eval l = valG x) (hr : a.eval r = valG y) (h : wpQuiet Tryz.prog ops C Q rest (a.put o.dst (.bool b))) : wpQuiet Tryz.prog ops C Q (o :: rest) a :=
  quiet_put hg (fun w => by rw [exec_eqlG ho hl hr, hb]) h
theorem quiet_neqG {ops : Array Oper} {C : World → Prop} {Q : Act → Prop} {o : Oper} {rest : List Oper} {a : Act} {l r : Operand} {ty : TypeId} (x y : Gl) (b : Bool) (hb : decide (x = y) = b) (hg : o.guard = none)
    (ho : o.op = .binOp .neq 45 l r ty) (hl : a.eval l = valG x) (hr : a.eval r = valG y) (h : wpQuiet Tryz.prog ops C Q rest (a.put o.dst (.bool (!b)))) : wpQuiet Tryz.prog ops C Q (o :: rest) a :=
  quiet_put hg (fun w => by rw [exec_neqG ho hl hr, hb]) h
theorem fieldsU : Tryz.prog.underlying 46 = some (.struct (Tryz.prog.fieldsOf 46)) := by kernel_rfl

set_option maxHeartbeats 1000000 in
theorem eqUl (x y : Gl) (w : World) : (Op.equalIn 10000 46 (valG x) (valG y)).run Tryz.prog w = .ok (decide (x = y)) w := by
  have hS := fieldsU
  have hp : Tryz.prog.stoodInHeld 46 = false := by kernel_rfl
  obtain ⟨a, b, c⟩ := x
  obtain ⟨a', b', c'⟩ := y
  simp only [valG]
  rw [show (10000 : Nat) = 9999 + 1 from rfl, run_equalIn_struct w 9999 46 _ _ hS hp]
  simp only [Program.fieldsOf, Tryz.underlying46]
  have tl : ∀ u v : ByteArray, u.toList = v.toList ↔ u = v := fun u v => ⟨toList_inj, fun h => by rw [h]⟩
  go_simp
  repeat' split
  all_goals simp_all
theorem exec_eqlU {o : Oper} {a : Act} {l r : Operand} {ty : TypeId} {x y : Gl} (ho : o.op = .binOp .eql 46 l r ty) (hl : a.eval l = valG x) (hr : a.eval r = valG y) (w : World) :
    (execOp a.eval o).run Tryz.prog w = .ok (.value (.bool (decide (x = y)))) w := by
  have hg := fun op p q => run_eqGuard_agg (P := Tryz.prog) w op 46 p q #[.string x.a, .string x.b, .string x.c] #[.string y.a, .string y.b, .string y.c] (by kernel_rfl)
  have he := eqUl x y w
  unfold execOp
  simp only [ho, hl, hr]
  simp only [valG] at he ⊢
  simp only [Sem.run_bind, hg, Result.andThen_ok, run_eql_struct, he, Sem.run_pure]
theorem exec_neqU {o : Oper} {a : Act} {l r : Operand} {ty : TypeId} {x y : Gl} (ho : o.op = .binOp .neq 46 l r ty) (hl : a.eval l = valG x) (hr : a.eval r = valG y) (w : World) :
    (execOp a.eval o).run Tryz.prog w = .ok (.value (.bool (!decide (x = y)))) w := by
  have hg := fun op p q => run_eqGuard_agg (P := Tryz.prog) w op 46 p q #[.string x.a, .string x.b, .string x.c] #[.string y.a, .string y.b, .string y.c] (by kernel_rfl)
  have he := eqUl x y w
  unfold execOp
  simp only [ho, hl, hr]
  simp only [valG] at he ⊢
  simp only [Sem.run_bind, hg, Result.andThen_ok, run_neq_struct, he, Sem.run_pure]

theorem quiet_eqlU {ops : Array Oper} {C : World → Prop} {Q : Act → Prop} {o : Oper} {rest : List Oper} {a : Act} {l r : Operand} {ty : TypeId} (x y : Gl) (b : Bool) (hb : decide (x = y) = b) (hg : o.guard = none)
    (ho : o.op = .binOp .eql 46 l r ty) (hl : a.eval l = valG x) (hr : a.eval r = valG y) (h : wpQuiet Tryz.prog ops C Q rest (a.put o.dst (.bool b))) : wpQuiet Tryz.prog ops C Q (o :: rest) a :=
  quiet_put hg (fun w => by rw [exec_eqlU ho hl hr, hb]) h
theorem quiet_neqU {ops : Array Oper} {C : World → Prop} {Q : Act → Prop} {o : Oper} {rest : List Oper} {a : Act} {l r : Operand} {ty : TypeId} (x y : Gl) (b : Bool) (hb : decide (x = y) = b) (hg : o.guard = none)
    (ho : o.op = .binOp .neq 46 l r ty) (hl : a.eval l = valG x) (hr : a.eval r = valG y) (h : wpQuiet Tryz.prog ops C Q rest (a.put o.dst (.bool (!b)))) : wpQuiet Tryz.prog ops C Q (o :: rest) a :=
  quiet_put hg (fun w => by rw [exec_neqU ho hl hr, hb]) h
theorem run_neqG (x y : Gl) (z : Bool) (h : decide (x = y) = z) (w : World) : (Go.binOp BinOp.neq 45 (.agg #[.string x.a, .string x.b, .string x.c]) (.agg #[.string y.a, .string y.b, .string y.c])).run Tryz.prog w = .ok (.bool (!z)) w := by
  have he := eqGl x y w
  rw [h] at he
  simp only [valG] at he
  rw [run_neq_struct, he]; rfl
theorem run_eqlG (x y : Gl) (z : Bool) (h : decide (x = y) = z) (w : World) : (Go.binOp BinOp.eql 45 (.agg #[.string x.a, .string x.b, .string x.c]) (.agg #[.string y.a, .string y.b, .string y.c])).run Tryz.prog w = .ok (.bool z) w := by
  have he := eqGl x y w
  rw [h] at he
  simp only [valG] at he
  rw [run_eql_struct, he]; rfl
theorem run_neqU (x y : Gl) (z : Bool) (h : decide (x = y) = z) (w : World) : (Go.binOp BinOp.neq 46 (.agg #[.string x.a, .string x.b, .string x.c]) (.agg #[.string y.a, .string y.b, .string y.c])).run Tryz.prog w = .ok (.bool (!z)) w := by
  have he := eqUl x y w
  rw [h] at he
  simp only [valG] at he
  rw [run_neq_struct, he]; rfl
theorem run_eqlU (x y : Gl) (z : Bool) (h : decide (x = y) = z) (w : World) : (Go.binOp BinOp.eql 46 (.agg #[.string x.a, .string x.b, .string x.c]) (.agg #[.string y.a, .string y.b, .string y.c])).run Tryz.prog w = .ok (.bool z) w := by
  have he := eqUl x y w
  rw [h] at he
  simp only [valG] at he
  rw [run_eql_struct, he]; rfl
end Go.Proofs.YtgfgfggoofjeeaaGreat
namespace Go.Proofs.YtgfgfggoofjeeaaGreat.DT
open Go.RowKit Go.Deep

/-- one more goal, unless it is the last one -/
def addG (out : List Gl) (g : Gl) : List Gl := if out.getLast? = some g then out else out ++ [g]
def gls (l : List Tup) : List Gl := (l.map glT).foldl addG []
theorem gls_step {l : List Tup} {k : Nat} (h : k < l.length) : gls (l.take (k + 1)) = addG (gls (l.take k)) (glT l[k]) := by
  unfold gls
  rw [List.take_succ_eq_append_getElem h, List.map_append, List.foldl_append]; rfl
theorem gls_len (l : List Tup) : (gls l).length ≤ l.length := by
  have : ∀ (m : List Gl) (o : List Gl), (m.foldl addG o).length ≤ m.length + o.length := by
    intro m
    induction m with
    | nil => intro o; simp
    | cons x r ih =>
      intro o
      have h1 := ih (addG o x)
      have h2 : (addG o x).length ≤ o.length + 1 := by unfold addG; split <;> simp
      rw [List.foldl_cons, List.length_cons]; omega
  have := this (l.map glT) []
  simpa [gls] using this
theorem addG_nil (g : Gl) : addG [] g = [g] := by unfold addG; simp
theorem addG_same {out : List Gl} {g : Gl} (he : out[out.length - 1]? = some g) : addG out g = out := by
  unfold addG; rw [List.getLast?_eq_getElem?, he, if_pos rfl]
theorem addG_new {out : List Gl} {g x : Gl} (he : out[out.length - 1]? = some x) (hn : ¬ x = g) : addG out g = out ++ [g] := by
  unfold addG; rw [List.getLast?_eq_getElem?, he, if_neg (fun e => hn (by injection e))]
theorem formG {w : World} {base : Nat} {v : Value} {l : List Gl} (h : OwnG w base v l) :
    (v = .slice none 0 0 ∧ l = []) ∨ ∃ g cap, v = .slice (some ⟨g, 0, none⟩) l.length cap ∧ l.length ≤ cap ∧ g < w.heap.size ∧ (∀ i, (h : i < l.length) → ∀ c u, (encG l[i])[c]? = some u → w.cell? ⟨g, i * 3 + c, none⟩ = some u) ∧ RowG w (some ⟨g, 0, none⟩) l := by
  obtain ⟨A, c, hv, hR, hc, -⟩ := h.row
  have hr := h.2
  rcases h.2 with ⟨rfl, hn⟩ | ⟨g, cap, cur, rfl, hb, hg, hc', hm, hsz, ht⟩
  · exact .inl ⟨rfl, List.eq_nil_of_length_eq_zero hn⟩
  · injection hv with h1 h2 h3
    subst h1
    refine .inr ⟨g, cap, rfl, hc', (Array.getElem?_eq_some_iff.1 hg).1, fun i hi c u hu => ?_, hR⟩
    have hlt := encG_lt hu
    have h1 := World.ownsRow.cellAt h (i * 3 + c) (by have := Nat.mul_le_mul_right 3 (show i + 1 ≤ l.length from hi); omega)
    rw [flatG_get l i c hi hlt, hu] at h1
    exact h1
/-- what Goals gives -/
def GivesG (w : World) (l : List Gl) (e : Ending) (w' : World) : Prop := ∃ A, e = .returned (.slice A l.length l.length) ∧ RowG w' A l ∧ Below w.heap.size w w'
set_option maxHeartbeats 400000 in
theorem clipG_nil (c : Nat) (w : World) :
    Calls Tryz.prog 38 #[.slice none 0 c] w fun r w' => r = .returned (.slice none 0 0) ∧ w = w' := by
  go_enter Tryz.func38, Tryz.ntmps38
  go_wp2
  go_ret
  exact ⟨rfl, rfl⟩
set_option maxHeartbeats 400000 in
theorem clipG_some (b o n c : Nat) (w : World) (h : n ≤ c) :
    Calls Tryz.prog 38 #[.slice (some ⟨b, o, none⟩) n c] w fun r w' => r = .returned (.slice (some ⟨b, o, none⟩) n n) ∧ w = w' := by
  go_enter Tryz.func38, Tryz.ntmps38
  go_wp2
  go_ret
  exact ⟨rfl, rfl⟩
set_option maxRecDepth 20000 in
set_option maxHeartbeats 4000000 in
theorem goals_l {w : World} {ov : Value} {T : Tr} {l : List Tup} (h : MapL w ov T l) (hn : l.length ≤ 10000) :
    Calls Tryz.prog 12 #[.agg #[ov, .pointer T.ad]] w (GivesG w (gls l)) := by
  have hA : Below w.heap.size w (w.alloc (.cells #[ov, .pointer T.ad] 38 (0, 0))) := g_alloc g_refl _
  have HA := hid hA
  have HLS := hid (list_r (h.below hA) (Nat.le_trans hn (by decide)))
  clear h hA
  go_enter Tryz.func12, Tryz.ntmps12
  go_wp2_with fail
  generalize hA1 : (w.alloc (.cells #[ov, .pointer T.ad] 38 (0, 0))) = A1 at *
  generalize hq : w.heap.size = q at *
  have HQ := hid hq
  clear hA1 hq
  refine HLS.out.mono ?_
  rintro _ w1 ⟨A, rfl, hR, hb1⟩
  have HR := hid hR
  have HB1 := hid hb1
  clear hR hb1
  go_wp2
  go_loopw [3, 10] (fun v i wr => ∃ k : Nat, k ≤ l.length ∧ i = .int .i64 k ∧ OwnG wr w1.heap.size v (gls (l.take k)) ∧ Below w1.heap.size w1 wr) (fun _ i _ => l.length - (intOf i).toNat)
  case atStart => exact ⟨0, Nat.zero_le _, rfl, OwnG.nil _ _, g_refl⟩
  case round =>
    obtain ⟨k, hk, rfl, hown, hw⟩ := hrel
    have HO := hid hown
    have HW := hid hw
    by_cases hlt : k < l.length
    · obtain ⟨b, o, rfl, hLi⟩ := (HR.out.below hw).at_ hlt
      have e0 : wr.cell? ⟨b, o + k * 6, none⟩ = some (.string l[k].a) := hLi.2 k hlt 0 _ rfl
      have e1 : wr.cell? ⟨b, o + k * 6 + 1, none⟩ = some (.string l[k].b) := hLi.2 k hlt 1 _ rfl
      have e2 : wr.cell? ⟨b, o + k * 6 + 2, none⟩ = some (.string l[k].c) := hLi.2 k hlt 2 _ rfl
      have e3 : wr.cell? ⟨b, o + k * 6 + 3, none⟩ = some (.string l[k].d) := hLi.2 k hlt 3 _ rfl
      have e4 : wr.cell? ⟨b, o + k * 6 + 4, none⟩ = some (.string l[k].e) := hLi.2 k hlt 4 _ rfl
      have e5 : wr.cell? ⟨b, o + k * 6 + 5, none⟩ = some (.string l[k].f) := hLi.2 k hlt 5 _ rfl
      have hst := gls_step hlt
      generalize hx : l[k] = y at *
      have HX := hid hst
      have hgl := gls_len (l.take k)
      rw [List.length_take] at hgl
      generalize hL : gls (l.take k) = L at *
      have hLn : L.length ≤ 10000 := by omega
      rcases formG hown with ⟨rfl, hl⟩ | ⟨g, cap, rfl, hcap, hgs, hcl, hRL⟩
      · subst hl
        clear hown hw hLi hst hx hL hgl
        go_wp2_with fail
        go_quiet (fail)
        generalize hY : (wr.alloc (.cells #[.string y.a, .string y.b, .string y.c, .string y.d, .string y.e, .string y.f] 48 (0, 0))).drewN nq = W2 at *
        have hb2 : Below wr.heap.size wr W2 := by rw [← hY]; exact g_drewN (g_alloc g_refl _) nq
        have hbx : W2.cell? ⟨wr.heap.size, 0, none⟩ = some (.string y.a) ∧ W2.cell? ⟨wr.heap.size, 1, none⟩ = some (.string y.b) ∧ W2.cell? ⟨wr.heap.size, 2, none⟩ = some (.string y.c) := by
          have h6 := box6p wr y 48
          rw [← hY]
          exact ⟨h6.1, h6.2.1, h6.2.2.1⟩
        obtain ⟨b0, b1, b2⟩ := hbx
        have HO2 := hid (OwnG.below HO.out hb2)
        have HW2 := hid (g_trans HW.out hb2)
        have hz := HW2.out.size
        clear hY hb2
        go_wp2_with (at_builtin; refine wp_appG _ _ rfl rfl w1.heap.size _ [] W2.heap.size 1 (glT y) rfl rfl (OwnG.below HO2.out (g_alloc g_refl _)) (new_cellsG W2 (glT y) _) (by omega) (by simp; omega) ?_)
        intro v5 w5 hown5 hg5 hd5
        have hw5 : Below w1.heap.size w1 w5 := (g_alloc HW2.out _).grown hg5 (g_alloc HW2.out _).size fun g hg => (OwnG.lt HO2.out g hg).1
        clear hd5 hg5 b0 b1 b2
        go_wp2
        go_roundw
        case rel => exact ⟨k + 1, by omega, by go_num, by rw [HX.out, addG_nil]; exact hown5, hw5⟩
        case measure => simp [intOf]; omega
      · by_cases hL0 : L.length = 0
        · have hl := List.eq_nil_of_length_eq_zero hL0
          subst hl
          simp only [List.length_nil] at HO
          clear hown hw hLi hst hx hL hgl hgs hcl hRL hL0 hcap
          go_wp2_with fail
          go_quiet (fail)
          generalize hY : (wr.alloc (.cells #[.string y.a, .string y.b, .string y.c, .string y.d, .string y.e, .string y.f] 48 (0, 0))).drewN nq = W2 at *
          have hb2 : Below wr.heap.size wr W2 := by rw [← hY]; exact g_drewN (g_alloc g_refl _) nq
          have hbx : W2.cell? ⟨wr.heap.size, 0, none⟩ = some (.string y.a) ∧ W2.cell? ⟨wr.heap.size, 1, none⟩ = some (.string y.b) ∧ W2.cell? ⟨wr.heap.size, 2, none⟩ = some (.string y.c) := by
            have h6 := box6p wr y 48
            rw [← hY]
            exact ⟨h6.1, h6.2.1, h6.2.2.1⟩
          obtain ⟨b0, b1, b2⟩ := hbx
          have HO2 := hid (OwnG.below HO.out hb2)
          have HW2 := hid (g_trans HW.out hb2)
          have hz := HW2.out.size
          clear hY hb2
          go_wp2_with (at_builtin; refine wp_appG _ _ rfl rfl w1.heap.size _ [] W2.heap.size 1 (glT y) rfl rfl (OwnG.below HO2.out (g_alloc g_refl _)) (new_cellsG W2 (glT y) _) (by omega) (by simp; omega) ?_)
          intro v5 w5 hown5 hg5 hd5
          have hw5 : Below w1.heap.size w1 w5 := (g_alloc HW2.out _).grown hg5 (g_alloc HW2.out _).size fun g hg => (OwnG.lt HO2.out g hg).1
          clear hd5 hg5 b0 b1 b2
          go_wp2
          go_roundw
          case rel => exact ⟨k + 1, by omega, by go_num, by rw [HX.out, addG_nil]; exact hown5, hw5⟩
          case measure => simp [intOf]; omega
        · obtain ⟨n0, hn0⟩ : ∃ n0, L.length = n0 + 1 := ⟨L.length - 1, by omega⟩
          have hlast : L[L.length - 1]? = some L[n0] := by rw [show L.length - 1 = n0 by omega]; exact List.getElem?_eq_getElem _
          generalize hxl : L[n0] = xl at *
          have x0 : wr.cell? ⟨g, n0 * 3, none⟩ = some (.string xl.a) := by have := hcl n0 (by omega) 0 _ rfl; rw [← hxl]; exact this
          have x1 : wr.cell? ⟨g, n0 * 3 + 1, none⟩ = some (.string xl.b) := by have := hcl n0 (by omega) 1 _ rfl; rw [← hxl]; exact this
          have x2 : wr.cell? ⟨g, n0 * 3 + 2, none⟩ = some (.string xl.c) := by have := hcl n0 (by omega) 2 _ rfl; rw [← hxl]; exact this
          have bel := (bcell (g_alloc (g_refl (a := wr)) (.cells #[.string y.a, .string y.b, .string y.c, .string y.d, .string y.e, .string y.f] 48 (0, 0)))).1
          have y0 := (bel g (n0 * 3) hgs).trans x0
          have y1 := (bel g (n0 * 3 + 1) hgs).trans x1
          have y2 := (bel g (n0 * 3 + 2) hgs).trans x2
          have hnn : ((L.length : Nat) : Int) = (n0 : Int) + 1 := by omega
          have hnz : ((n0 : Int) + 1 == 0) = false := beq_eq_false_iff_ne.2 (by omega)
          obtain ⟨zz, hzz⟩ : ∃ zz, decide (xl = glT y) = zz := ⟨_, rfl⟩
          have hne := run_neqG xl (glT y) zz hzz
          simp only [glT] at hne
          have HZZ := hid hzz
          have HLA := hid hlast
          have HN0 := hid hn0
          clear hown hw hLi hst hx hL hgl hcl hRL hlast hxl x0 x1 x2 bel hzz
          rw [hn0] at HO hcap ⊢
          go_wp2_with fail
          cases zz
          · go_quiet (fail)
            generalize hY : (wr.alloc (.cells #[.string y.a, .string y.b, .string y.c, .string y.d, .string y.e, .string y.f] 48 (0, 0))).drewN nq = W2 at *
            have hb2 : Below wr.heap.size wr W2 := by rw [← hY]; exact g_drewN (g_alloc g_refl _) nq
            have hbx : W2.cell? ⟨wr.heap.size, 0, none⟩ = some (.string y.a) ∧ W2.cell? ⟨wr.heap.size, 1, none⟩ = some (.string y.b) ∧ W2.cell? ⟨wr.heap.size, 2, none⟩ = some (.string y.c) := by
              have h6 := box6p wr y 48
              rw [← hY]
              exact ⟨h6.1, h6.2.1, h6.2.2.1⟩
            obtain ⟨b0, b1, b2⟩ := hbx
            have HO2 := hid (OwnG.below HO.out hb2)
            have HW2 := hid (g_trans HW.out hb2)
            have hz := HW2.out.size
            clear hY hb2
            go_wp2_with (at_builtin; refine wp_appG _ _ rfl rfl w1.heap.size _ L W2.heap.size 1 (glT y) rfl rfl (OwnG.below HO2.out (g_alloc g_refl _)) (new_cellsG W2 (glT y) _) (by omega) (by simp; omega) ?_)
            intro v5 w5 hown5 hg5 hd5
            have hw5 : Below w1.heap.size w1 w5 := (g_alloc HW2.out _).grown hg5 (g_alloc HW2.out _).size fun g hg => (OwnG.lt HO2.out g hg).1
            clear hd5 hg5 b0 b1 b2
            go_wp2
            go_roundw
            case rel => exact ⟨k + 1, by omega, by go_num, by rw [HX.out, addG_new HLA.out (of_decide_eq_false HZZ.out)]; exact hown5, hw5⟩
            case measure => simp [intOf]; omega
          · go_quiet (fail)
            generalize hY : (wr.alloc (.cells #[.string y.a, .string y.b, .string y.c, .string y.d, .string y.e, .string y.f] 48 (0, 0))).drewN nq = W2 at *
            have hb2 : Below wr.heap.size wr W2 := by rw [← hY]; exact g_drewN (g_alloc g_refl _) nq
            have HO2 := hid (OwnG.below HO.out hb2)
            have HW2 := hid (g_trans HW.out hb2)
            clear hY hb2
            go_wp2
            go_roundw
            case rel => exact ⟨k + 1, by omega, by go_num, by rw [HX.out, addG_same (by rw [HLA.out, of_decide_eq_true HZZ.out])]; exact HO2.out, HW2.out⟩
            case measure => simp [intOf]; omega
    · rw [List.take_of_length_le (by omega)] at hown
      clear HO
      generalize gls l = L at *
      rcases formG hown with ⟨rfl, hl⟩ | ⟨g, cap, rfl, hcap, hgs, hcl, hRL⟩
      · subst hl
        clear hown hw
        go_wp2_with fail
        refine (clipG_nil 0 _).mono ?_
        rintro r w' ⟨rfl, rfl⟩
        go_wp2
        go_ret
        have h := HQ.out
        subst h
        exact ⟨none, rfl, RowG.nil _ _, g_trans (g_trans HA.out HB1.out) HW.out⟩
      · have HRL := hid hRL
        clear hRL hown hw hgs hcl
        go_wp2_with fail
        refine (clipG_some g 0 L.length cap _ hcap).mono ?_
        rintro r w' ⟨rfl, rfl⟩
        go_wp2
        go_ret
        have h := HQ.out
        subst h
        exact ⟨_, rfl, HRL.out, g_trans (g_trans HA.out HB1.out) HW.out⟩
end Go.Proofs.YtgfgfggoofjeeaaGreat.DT
namespace Go.Proofs.YtgfgfggoofjeeaaGreat
open Go.RowKit Go.Sort

theorem spc_len (n : Nat) : (spc n).size ≤ 10 := by
  by_cases h : n % 3 = 0
  · unfold spc; rw [if_pos h]; decide
  · by_cases h2 : n % 3 = 1
    · unfold spc; rw [if_neg h, if_pos h2]; decide
    · unfold spc; rw [if_neg h, if_neg h2]; decide
theorem idS_len (n : Nat) : (idS n).size ≤ 10 := by 
  unfold idS
  repeat' split
  all_goals decide
theorem relS_len (n : Nat) : (relS n).size ≤ 10 := by 
  unfold relS
  repeat' split
  all_goals decide
theorem one_sm (p q : Nat) : Small (one p q) := by
  have h1 := spc_len (p % 60); have h2 := idS_len (p % 60 / 3); have h3 := relS_len (p % 60 / 15)
  have h4 := spc_len (q % 75); have h5 := idS_len (q % 75 / 3); have h6 := relS_len (q % 75 / 15 - 1)
  by_cases h : 15 ≤ q % 75
  · rw [one_big h]; exact ⟨Nat.le_trans h1 (by decide), Nat.le_trans h2 (by decide), Nat.le_trans h3 (by decide), Nat.le_trans h4 (by decide), Nat.le_trans h5 (by decide), Nat.le_trans h6 (by decide)⟩
  · rw [one_small h]; exact ⟨Nat.le_trans h1 (by decide), Nat.le_trans h2 (by decide), Nat.le_trans h3 (by decide), Nat.le_trans h4 (by decide), Nat.le_trans h5 (by decide), Nat.zero_le _⟩
theorem ofT_fits (x : List (Nat × Nat)) : ∀ t ∈ ofT x, Fits t := fun t ht => by
  unfold ofT at ht
  obtain ⟨p, -, rfl⟩ := List.mem_map.1 ht
  exact (one_sm _ _).fits
theorem srt_fits {l : List Tup} (h : ∀ t ∈ l, Fits t) : ∀ t ∈ srt cmpT l, Fits t := fun t ht => h t ((mem_srt tot l t).1 ht)
theorem srt_len20 (x : List (Nat × Nat)) : (srt cmpT (ofT x)).length ≤ 20 := Nat.le_trans (length_srt _) (ofT_len x)
theorem srt_isB (l : List Tup) : isB cmpT (srt cmpT l) = true := (isB_asc tot _).2 (asc_srt tot l)

/-- a pair of bytes lies in a block -/
def NN (w : World) (b p q : Nat) : Prop := w.cell? ⟨b, 0, none⟩ = some (.int .u8 p) ∧ w.cell? ⟨b, 1, none⟩ = some (.int .u8 q) ∧ b < w.heap.size
theorem NN.keep {w w' : World} {b p q : Nat} (h : NN w b p q) (hb : Below w.heap.size w w') : NN w' b p q := by
  obtain ⟨h0, h1, h2⟩ := h
  exact ⟨(own_cells hb _ h2 _).1.trans h0, (own_cells hb _ h2 _).1.trans h1, Nat.lt_of_lt_of_le h2 hb.size⟩

end Go.Proofs.YtgfgfggoofjeeaaGreat
namespace Go.Proofs.YtgfgfggoofjeeaaGreat.DT
open Go.RowKit Go.Deep

theorem some_del {l : List Tup} (hl : Asc cmpT l) (k : Tup) : someL l [k] true false false = Tr.del k l := by
  unfold someL
  refine (srt_of tot (Tr.del_asc hl) fun t => ?_).symm
  unfold flt
  rw [Tr.mem_del, List.mem_filter, List.mem_append]
  unfold sel
  by_cases h1 : t ∈ l <;> by_cases h2 : t = k <;> simp [h1, h2]
theorem some_ins {l : List Tup} (hl : Asc cmpT l) {k : Tup} (hk : k ∉ l) : someL l [k] true true true = ins cmpT k l := by
  unfold someL
  refine (srt_of tot (asc_ins tot k l hl hk) fun t => ?_).symm
  unfold flt
  rw [mem_ins, List.mem_filter, List.mem_append]
  unfold sel
  by_cases h1 : t ∈ l <;> by_cases h2 : t = k <;> simp [h1, h2]
theorem wth_asc {l : List Tup} (hl : Asc cmpT l) (k : Tup) (d : Bool) : Asc cmpT (wth l k d).1 := by
  unfold wth
  repeat' split
  all_goals first | exact List.Pairwise.nil | exact Tr.del_asc hl | exact hl | (rename_i h _; exact asc_ins tot k l hl h)
theorem wth_ok {l : List Tup} (hl : ∀ t ∈ l, okT t = true) (k : Tup) (d : Bool) : ∀ t ∈ (wth l k d).1, okT t = true := by
  unfold wth
  split
  · intro t h; cases h
  · rename_i ho
    split
    · intro t h; exact hl t (Tr.mem_del.1 h).1
    · split
      · exact hl
      · split
        · intro t h; cases h
        · intro t h
          rcases (mem_ins cmpT k t l).1 h with e | h
          · rw [e]; cases hk : okT k
            · exact absurd hk ho
            · rfl
          · exact hl t h
theorem ok_fits {t : Tup} (h : okT t = true) : Fits t := by
  obtain ⟨h1, h2, h3, h4⟩ := okT_parts h
  unfold okSub at h4
  simp only [Bool.and_eq_true, Bool.or_eq_true] at h4
  have g : ∀ s : ByteArray, nb s = true → s.size ≤ maxLen := fun s h => Nat.le_trans (nb_small h) (by decide)
  exact ⟨g _ h1, g _ h2, g _ h3, g _ h4.1.1, g _ h4.1.2, h4.2.elim (fun h => by rw [empty_of h]; exact Nat.zero_le _) (g _)⟩
/-- what the reference's With gives -/
def GivesW (w : World) (r : List Tup × Int) (e : Ending) (w' : World) : Prop := ∃ A c, e = .returned (.tuple #[.slice A r.1.length c, .int .i64 r.2]) ∧ Row w' A r.1 ∧ Below w.heap.size w w'
theorem rtcheck_f (x : Tup) (k : Int) (w : World) (hx : Fits x) (h : err (okT x) = k) :
    Calls Tryz.prog 45 #[.agg #[.string x.a, .string x.b, .string x.c, .string x.d, .string x.e, .string x.f]] w fun e w' => e = .returned (.int .i64 k) ∧ Below w.heap.size w w' := by subst h; exact rtcheck x w hx
theorem rin_f (A : Option Addr) (l : List Tup) (c : Nat) (x : Tup) (w : World) (v : Int) (hR : Row w A l) (hn : l.length ≤ 10000) (h : inI x l = v) :
    Calls Tryz.prog 19 #[.slice A l.length c, .agg #[.string x.a, .string x.b, .string x.c, .string x.d, .string x.e, .string x.f]] w fun e w' => e = .returned (.int .i64 v) ∧ Below w.heap.size w w' := by
  subst h; exact (rin A l c x w hR hn).mono fun _ _ h => ⟨h.1, h.2.toBelow⟩
theorem rsome_f (A B : Option Addr) (x : List Tup) (k : Tup) (ca cb : Nat) (a c b : Bool) (w : World) (L : List Tup) (hR : Row w A x) (hS : Row w B [k]) (hF : ∀ t ∈ x, Fits t) (hG : Fits k) (hx : x.length ≤ 4000) (h : someL x [k] a c b = L) :
    Calls Tryz.prog 46 #[.slice A x.length ca, .slice B 1 cb, .bool a, .bool c, .bool b] w fun e w' => ∃ A c, e = .returned (.slice A L.length c) ∧ Row w' A L ∧ Below w.heap.size w w' := by
  subst h
  refine (rsome A B x [k] ca cb a c b w hR hS hF (fun t ht => by rw [List.mem_singleton.1 ht]; exact hG) hx (by simp)).mono ?_
  rintro _ _ ⟨v, rfl, hO, hg⟩
  obtain ⟨A', c', rfl, hR', -, -⟩ := hO.row
  exact ⟨A', c', rfl, hR', hg.toBelow⟩
theorem rw_world (w : World) (k : Tup) (d : Bool) (W : World) (hW : W = w.alloc (.cells #[.string k.a, .string k.b, .string k.c, .string k.d, .string k.e, .string k.f, .bool d] 69 (0, 0))) :
    Below w.heap.size w W ∧ (W.cell? ⟨w.heap.size, 0, none⟩ = some (.string k.a) ∧ W.cell? ⟨w.heap.size, 1, none⟩ = some (.string k.b) ∧ W.cell? ⟨w.heap.size, 2, none⟩ = some (.string k.c) ∧ W.cell? ⟨w.heap.size, 3, none⟩ = some (.string k.d) ∧ W.cell? ⟨w.heap.size, 4, none⟩ = some (.string k.e) ∧ W.cell? ⟨w.heap.size, 5, none⟩ = some (.string k.f) ∧ W.cell? ⟨w.heap.size, 6, none⟩ = some (.bool d)) := by
  have n := new_at w (.cells #[.string k.a, .string k.b, .string k.c, .string k.d, .string k.e, .string k.f, .bool d] 69 (0, 0))
  rw [← hW] at n
  have e := fun j => box_cell n j
  exact ⟨by rw [hW]; exact g_alloc g_refl _, ⟨(e 0).trans rfl, (e 1).trans rfl, (e 2).trans rfl, (e 3).trans rfl, (e 4).trans rfl, (e 5).trans rfl, (e 6).trans rfl⟩⟩
theorem row_one (w : World) (k : Tup) : Row (w.alloc (.cells #[.string k.a, .string k.b, .string k.c, .string k.d, .string k.e, .string k.f] 48 (0, 0))) (some ⟨w.heap.size, 0, none⟩) [k] := fun _ =>
  ⟨w.heap.size, 0, rfl, by simp, fun i hi c v hv => by
    have hi0 : i = 0 := by simpa using hi
    subst hi0
    have h6 := box6p w k 48
    have hc := enc_lt hv
    simp only [List.getElem_cons_zero] at hv
    simp only [Nat.zero_mul, Nat.zero_add]
    match c, hc with
    | 0, _ => cases hv; exact h6.1
    | 1, _ => cases hv; exact h6.2.1
    | 2, _ => cases hv; exact h6.2.2.1
    | 3, _ => cases hv; exact h6.2.2.2.1
    | 4, _ => cases hv; exact h6.2.2.2.2.1
    | 5, _ => cases hv; exact h6.2.2.2.2.2⟩
set_option maxRecDepth 20000 in
set_option maxHeartbeats 2000000 in
theorem rwith_any (A : Option Addr) (l : List Tup) (c : Nat) (k : Tup) (d : Bool) (w : World) (hR : Row w A l) (hF : ∀ t ∈ l, Fits t) (hk : Fits k) (hl : Asc cmpT l) (hn : l.length ≤ 4000) :
    Calls Tryz.prog 21 #[.slice A l.length c, .agg #[.string k.a, .string k.b, .string k.c, .string k.d, .string k.e, .string k.f, .bool d]] w (GivesW w (wth l k d)) := by
  obtain ⟨hA, hC⟩ := rw_world w k d _ rfl
  have HA := hid hA
  have HC := hid hC
  have HR := hid (hR.below hA)
  have HF := hid hF
  have HK := hid hk
  have HN := hid hn
  cases ho : okT k
  · have e : wth l k d = ([], 6) := by unfold wth; rw [if_pos ho]
    rw [e]
    have HP := hid (fun W => rtcheck_f k 6 W hk (by rw [ho]; rfl))
    clear hA hC hR hF hk hl hn ho e
    go_enter Tryz.func21, Tryz.ntmps21
    go_wp2_with fail
    refine (HP.out _).mono ?_
    rintro _ w1 ⟨rfl, hb1⟩
    go_wp2
    go_ret2
    exact ⟨none, 0, rfl, Row.nil _ _, g_trans HA.out hb1⟩
  · have HP := hid (fun W => rtcheck_f k 0 W hk (by rw [ho]; rfl))
    cases d
    · by_cases hm : k ∈ l
      · have e : wth l k false = (l, 0) := by unfold wth; rw [if_neg (by rw [ho]; decide), if_neg Bool.noConfusion, if_pos hm]
        rw [e]
        have HI := hid (fun W (h : Row W A l) => rin_f A l c k W 1 h (Nat.le_trans hn (by decide)) (by unfold inI; rw [if_pos hm]))
        clear hA hC hR hF hk hl hn ho e hm
        go_enter Tryz.func21, Tryz.ntmps21
        go_wp2_with fail
        refine (HP.out _).mono ?_
        rintro _ w1 ⟨rfl, hb1⟩
        obtain ⟨s0, s1, s2, s3, s4, s5, s6⟩ := keep7 hb1 HC.out
        have HR1 := hid (HR.out.below hb1)
        go_wp2_with fail
        refine (HI.out _ HR1.out).mono ?_
        rintro _ w2 ⟨rfl, hb2⟩
        clear s0 s1 s2 s3 s4 s5 s6
        go_wp2
        go_ret2
        exact ⟨A, c, rfl, HR1.out.below hb2, g_trans (g_trans HA.out hb1) hb2⟩
      · have e : wth l k false = (ins cmpT k l, 0) := by unfold wth; rw [if_neg (by rw [ho]; decide), if_neg Bool.noConfusion, if_neg hm, if_neg (by omega)]
        rw [e]
        have HI := hid (fun W (h : Row W A l) => rin_f A l c k W 0 h (Nat.le_trans hn (by decide)) (by unfold inI; rw [if_neg hm]))
        have HS := hid (some_ins hl hm)
        have hlt : ¬ (4096 : Int) ≤ (l.length : Int) := by omega
        clear hA hC hR hF hk hl hn ho e hm
        go_enter Tryz.func21, Tryz.ntmps21
        go_wp2_with fail
        refine (HP.out _).mono ?_
        rintro _ w1 ⟨rfl, hb1⟩
        obtain ⟨s0, s1, s2, s3, s4, s5, s6⟩ := keep7 hb1 HC.out
        have HR1 := hid (HR.out.below hb1)
        go_wp2_with fail
        refine (HI.out _ HR1.out).mono ?_
        rintro _ w2 ⟨rfl, hb2⟩
        have HR2 := hid (HR1.out.below hb2)
        have hb12 := g_trans hb1 hb2
        clear s0 s1 s2 s3 s4 s5 s6
        obtain ⟨s0, s1, s2, s3, s4, s5, s6⟩ := keep7 hb12 HC.out
        go_wp2_with fail
        refine (rsome_f A _ l k c 1 true true true _ _ (HR2.out.below (g_alloc g_refl _)) (row_one w2 k) HF.out HK.out HN.out HS.out).mono ?_
        rintro _ w3 ⟨B, cB, rfl, hRB, hb3⟩
        go_wp2
        go_ret2
        exact ⟨B, cB, rfl, hRB, g_trans (g_alloc (g_trans HA.out hb12) _) hb3⟩
    · have e : wth l k true = (Tr.del k l, 0) := by unfold wth; rw [if_neg (by rw [ho]; decide), if_pos rfl]
      rw [e]
      have HS := hid (some_del hl k)
      clear hA hC hR hF hk hl hn ho e
      go_enter Tryz.func21, Tryz.ntmps21
      go_wp2_with fail
      refine (HP.out _).mono ?_
      rintro _ w1 ⟨rfl, hb1⟩
      obtain ⟨s0, s1, s2, s3, s4, s5, s6⟩ := keep7 hb1 HC.out
      have HR1 := hid (HR.out.below hb1)
      go_wp2_with fail
      refine (rsome_f A _ l k c 1 true false false _ _ (HR1.out.below (g_alloc g_refl _)) (row_one w1 k) HF.out HK.out HN.out HS.out).mono ?_
      rintro _ w3 ⟨B, cB, rfl, hRB, hb3⟩
      go_wp2
      go_ret2
      exact ⟨B, cB, rfl, hRB, g_trans (g_alloc (g_trans HA.out hb1) _) hb3⟩
theorem rsame_f (A B : Option Addr) (l m : List Tup) (c d : Nat) (w : World) (n : Nat) (v : Int) (hR : Row w A l) (hS : Row w B m) (hl : l.length = n) (hm : m.length = n) (hn : n ≤ 10000) (h : sameI l m = v) :
    Calls Tryz.prog 14 #[.slice A n c, .slice B n d] w fun e w' => e = .returned (.int .i64 v) ∧ Below w.heap.size w w' := by
  subst h; exact (rsame_n A B l m n n c d w hR hS hl hm hn).mono fun _ _ h => ⟨h.1, h.2.toBelow⟩
set_option maxRecDepth 20000 in
set_option maxHeartbeats 2000000 in
theorem lsame_any {w : World} {ov : Value} {T : Tr} {m : List Tup} (h : MapL w ov T m) (A : Option Addr) (l : List Tup) (c : Nat) (v : Int) (hR : Row w A l) (hm : m.length ≤ 10000) (hv : sameI m l = v) :
    Calls Tryz.prog 23 #[.agg #[ov, .pointer T.ad], .slice A l.length c] w fun e w' => e = .returned (.int .i64 v) ∧ Below w.heap.size w w' := by
  have hA : Below w.heap.size w (w.alloc (.cells #[ov, .pointer T.ad] 38 (0, 0))) := g_alloc g_refl _
  have HA := hid hA
  have HBP := hid (box2p w ov (.pointer T.ad) 38)
  have HL := hid (h.below hA)
  have HR := hid (hR.below hA)
  have HV := hid hv
  have HN := hid hm
  by_cases he : m.length = l.length
  · have HE := hid he
    rw [← he]
    have hee : ((m.length : Int) == (m.length : Int)) = true := by simp
    clear h hR hA hv hm he
    go_enter Tryz.func23, Tryz.ntmps23
    go_wp2_with fail
    refine (list_r HL.out (Nat.le_trans HN.out (by decide))).mono ?_
    rintro _ w1 ⟨B, rfl, hRB, hb1⟩
    have HRB := hid hRB
    have HL1 := hid (HL.out.below hb1)
    have HR1 := hid (HR.out.below hb1)
    obtain ⟨k0, k1⟩ := keep2 hb1 HBP.out
    clear hRB
    go_wp2_with fail
    refine (len_l HL1.out).mono ?_
    rintro _ w2 ⟨rfl, hb2⟩
    clear k0 k1
    go_wp2_with fail
    refine (rsame_f B A m l _ _ _ m.length v (HRB.out.below hb2) (HR1.out.below hb2) rfl HE.out.symm HN.out HV.out).mono ?_
    rintro _ w3 ⟨rfl, hb3⟩
    go_wp2
    go_ret
    exact ⟨rfl, g_trans (g_trans (g_trans HA.out hb1) hb2) hb3⟩
  · have e : v = 0 := by rw [← hv]; exact sameI_len he
    subst e
    have hee : ((m.length : Int) != (l.length : Int)) = true := bne_iff_ne.2 (by omega)
    have hne : ¬ (m.length : Int) = (l.length : Int) := by omega
    clear h hR hA hv hm he
    go_enter Tryz.func23, Tryz.ntmps23
    go_wp2_with fail
    refine (list_r HL.out (Nat.le_trans HN.out (by decide))).mono ?_
    rintro _ w1 ⟨B, rfl, hRB, hb1⟩
    have HL1 := hid (HL.out.below hb1)
    obtain ⟨k0, k1⟩ := keep2 hb1 HBP.out
    clear hRB
    go_wp2_with fail
    refine (len_l HL1.out).mono ?_
    rintro _ w2 ⟨rfl, hb2⟩
    clear k0 k1
    go_wp2
    go_ret
    exact ⟨rfl, g_trans (g_trans HA.out hb1) hb2⟩
theorem res7 {a b : World} {g : Nat} {t : TypeId} {x0 x1 x2 x3 x4 x5 x6 : Value} (h : a.heap[g]? = some (.cells #[x0, x1, x2, x3, x4, x5, x6] t (0, 0))) (k : Below a.heap.size a b) :
    (b.frozen? ⟨g, 0, none⟩ = false ∧ b.frozen? ⟨g, 1, none⟩ = false ∧ b.frozen? ⟨g, 2, none⟩ = false ∧ b.frozen? ⟨g, 3, none⟩ = false ∧ b.frozen? ⟨g, 4, none⟩ = false ∧ b.frozen? ⟨g, 5, none⟩ = false ∧ b.frozen? ⟨g, 6, none⟩ = false) ∧ (b.cell? ⟨g, 0, none⟩ = some x0 ∧ b.cell? ⟨g, 1, none⟩ = some x1 ∧ b.cell? ⟨g, 2, none⟩ = some x2 ∧ b.cell? ⟨g, 3, none⟩ = some x3 ∧ b.cell? ⟨g, 4, none⟩ = some x4 ∧ b.cell? ⟨g, 5, none⟩ = some x5 ∧ b.cell? ⟨g, 6, none⟩ = some x6) := by
  have e := (k.block g (Array.getElem?_eq_some_iff.1 h).1).trans h
  exact ⟨⟨box_frozen e 0, box_frozen e 1, box_frozen e 2, box_frozen e 3, box_frozen e 4, box_frozen e 5, box_frozen e 6⟩, ⟨(box_cell e 0).trans rfl, (box_cell e 1).trans rfl, (box_cell e 2).trans rfl, (box_cell e 3).trans rfl, (box_cell e 4).trans rfl, (box_cell e 5).trans rfl, (box_cell e 6).trans rfl⟩⟩
theorem set_7 {W : World} {b p o : Nat} {u0 u1 u2 u3 u4 u5 u6 x : Value} (h : ¬ b = p) (k : W.cell? ⟨b, o, none⟩ = some x) :
    (((((((W.setCell ⟨p, 0, none⟩ u0).setCell ⟨p, 1, none⟩ u1).setCell ⟨p, 2, none⟩ u2).setCell ⟨p, 3, none⟩ u3).setCell ⟨p, 4, none⟩ u4).setCell ⟨p, 5, none⟩ u5).setCell ⟨p, 6, none⟩ u6).cell? ⟨b, o, none⟩ = some x :=
  set_c h (set_c h (set_c h (set_c h (set_c h (set_c h (set_c h k))))))
theorem one_f (p q : Nat) (w : World) (hp : p < 256) (hq : q < 256) (t : Tup) (h : one p q = t) :
    Calls Tryz.prog 7 #[.agg #[.int .u8 p, .int .u8 q]] w fun e w' => e = .returned (.agg #[.string t.a, .string t.b, .string t.c, .string t.d, .string t.e, .string t.f]) ∧ Below w.heap.size w w' := by
  subst h; exact (one_any p q w hp hq).mono fun _ _ h => ⟨h.1, h.2.toBelow⟩
set_option maxRecDepth 20000 in
set_option maxHeartbeats 2000000 in
theorem change_any (p q r : Nat) (w : World) (hp : p < 256) (hq : q < 256) (hr : r < 256) (t : Tup) (h : one p q = t) (z : Bool) (hz : decide (r % 2 = 1) = z) :
    Calls Tryz.prog 27 #[.agg #[.int .u8 p, .int .u8 q, .int .u8 r]] w fun e w' => e = .returned (.agg #[.string t.a, .string t.b, .string t.c, .string t.d, .string t.e, .string t.f, .bool z]) ∧ Below w.heap.size w w' := by
  have HO := hid (fun W => one_f p q W hp hq t h)
  have hz2 : (((r : Int).tmod 2) == 1) = z := by
    rw [← hz]
    rw [show (r : Int).tmod 2 = ((r % 2 : Nat) : Int) by rw [Int.tmod_eq_emod_of_nonneg (by omega)]; omega]
    by_cases h : r % 2 = 1
    · rw [h]; rfl
    · have : r % 2 = 0 := by omega
      rw [this]; rfl
  have r0 : (0 : Int) ≤ (r : Int) := by omega
  have r1 : (r : Int) < 256 := by omega
  obtain ⟨w1, h1⟩ : ∃ w1, w.alloc (.cells #[.int .u8 p, .int .u8 q, .int .u8 r] 78 (0, 0)) = w1 := ⟨_, rfl⟩
  have s1 : w1.heap.size = w.heap.size + 1 := by rw [← h1]; simp
  have b1 : Below w.heap.size w w1 := by rw [← h1]; exact g_alloc g_refl _
  have m := new_at w (.cells #[.int .u8 p, .int .u8 q, .int .u8 r] 78 (0, 0))
  rw [h1] at m
  have HB := hid (g_alloc b1 (.cells #[.string ⟨#[]⟩, .string ⟨#[]⟩, .string ⟨#[]⟩, .string ⟨#[]⟩, .string ⟨#[]⟩, .string ⟨#[]⟩, .bool false] 69 (0, 0)))
  have m2 := new_old (o := .cells #[.string ⟨#[]⟩, .string ⟨#[]⟩, .string ⟨#[]⟩, .string ⟨#[]⟩, .string ⟨#[]⟩, .string ⟨#[]⟩, .bool false] 69 (0, 0)) m
  have r2 := new_at w1 (.cells #[.string ⟨#[]⟩, .string ⟨#[]⟩, .string ⟨#[]⟩, .string ⟨#[]⟩, .string ⟨#[]⟩, .string ⟨#[]⟩, .bool false] 69 (0, 0))
  rw [s1] at r2
  have HM := hid m2
  have HR := hid r2
  rw [← h1] at HB HM HR
  clear h hz s1 b1 m m2 r2 h1 w1
  go_enter Tryz.func27, Tryz.ntmps27
  go_wp2_with fail
  generalize hA1 : ((w.alloc (.cells #[.int .u8 p, .int .u8 q, .int .u8 r] 78 (0, 0))).alloc (.cells #[.string ⟨#[]⟩, .string ⟨#[]⟩, .string ⟨#[]⟩, .string ⟨#[]⟩, .string ⟨#[]⟩, .string ⟨#[]⟩, .bool false] 69 (0, 0))) = A1 at *
  generalize hq : w.heap.size = g at *
  have HQ := hid hq
  clear hA1 hq
  have c0 : A1.drew.cell? ⟨g, 0, none⟩ = some (.int .u8 p) := (box_cell HM.out 0).trans rfl
  have c1 : A1.drew.cell? ⟨g, 1, none⟩ = some (.int .u8 q) := (box_cell HM.out 1).trans rfl
  have c2 : A1.drew.cell? ⟨g, 2, none⟩ = some (.int .u8 r) := (box_cell HM.out 2).trans rfl
  have hS : A1.drew.cell? ⟨g, 0, none⟩ = some (.int .u8 p) ∧ A1.drew.cell? ⟨g, 1, none⟩ = some (.int .u8 q) ∧ A1.drew.cell? ⟨g, 2, none⟩ = some (.int .u8 r) := ⟨c0, c1, c2⟩
  have HS := hid hS
  have HR1 : Hid (A1.drew.heap[g + 1]? = some (.cells #[.string ⟨#[]⟩, .string ⟨#[]⟩, .string ⟨#[]⟩, .string ⟨#[]⟩, .string ⟨#[]⟩, .string ⟨#[]⟩, .bool false] 69 (0, 0))) := hid HR.out
  have HB1 : Hid (Below g w A1.drew) := hid (by have h := HQ.out; subst h; exact g_drew HB.out)
  clear c0 c1 c2 HM HR HB
  have n1 : ¬ g = g + 1 := by omega
  have n2 : ¬ g + 1 = g := by omega
  go_region_held3 (fun w' => w'.cell? ⟨g, 0, none⟩ = some (.int .u8 p) ∧ w'.cell? ⟨g, 1, none⟩ = some (.int .u8 q) ∧ w'.cell? ⟨g, 2, none⟩ = some (.int .u8 r)) (first | with_reducible assumption | exact ⟨set_7 n1 hS2.1, set_7 n1 hS2.2.1, set_7 n1 hS2.2.2⟩)
    (first | (go_at_call 7; (with_reducible refine Calls.mono (HO.out _) ?_); rintro _ w2 ⟨rfl, hb2⟩; obtain ⟨⟨f0, f1, f2, f3, f4, f5, f6⟩, ⟨d0, d1, d2, d3, d4, d5, d6⟩⟩ := res7 HR1.out hb2; have hS2 := keep3 hb2 HS.out))
  all_goals go_wp2
  all_goals refine bodyPost_ret (v := .agg #[.string t.a, .string t.b, .string t.c, .string t.d, .string t.e, .string t.f, .bool z]) ?_ rfl ?_
  · simp [results, Tryz.results27, go_sem, *]
  · have h := HQ.out
    subst h
    have hg : w.heap.size ≤ w.heap.size + 1 := Nat.le_succ _
    exact ⟨rfl, g_set (g_set (g_set (g_set (g_set (g_set (g_set (g_trans HB1.out hb2) hg _) hg _) hg _) hg _) hg _) hg _) hg _⟩
end Go.Proofs.YtgfgfggoofjeeaaGreat.DT
namespace Go.Proofs.YtgfgfggoofjeeaaGreat
open Go.RowKit Go.Sort

/-- the first one that is not empty -/
def orS (a b : ByteArray) : ByteArray := if a.toList.isEmpty then b else a
theorem orS_e {a b : ByteArray} (h : a.toList.isEmpty = true) : orS a b = b := by unfold orS; rw [if_pos h]
theorem orS_n {a b : ByteArray} (h : a.toList.isEmpty = false) : orS a b = a := by unfold orS; rw [if_neg (by rw [h]; decide)]

/-- the first one that is not 0 -/
def orI (a b : Int) : Int := if a = 0 then b else a

theorem nz_cases (d e f : ByteArray) : (d.toList.isEmpty = true ∧ e.toList.isEmpty = true ∧ f.toList.isEmpty = true) ∨ d.toList.isEmpty = false ∨ (d.toList.isEmpty = true ∧ e.toList.isEmpty = false) ∨ (d.toList.isEmpty = true ∧ e.toList.isEmpty = true ∧ f.toList.isEmpty = false) := by
  cases d.toList.isEmpty <;> cases e.toList.isEmpty <;> cases f.toList.isEmpty <;> simp
/-- the first subject that is one -/
def orU (x y : ByteArray × ByteArray × ByteArray) : ByteArray × ByteArray × ByteArray := if x.1.toList.isEmpty && x.2.1.toList.isEmpty && x.2.2.toList.isEmpty then y else x
theorem orU_e {d e f : ByteArray} {y : ByteArray × ByteArray × ByteArray} (h1 : d.toList.isEmpty = true) (h2 : e.toList.isEmpty = true) (h3 : f.toList.isEmpty = true) : orU (d, e, f) y = y := by unfold orU; rw [if_pos (by simp [h1, h2, h3])]
theorem orU_n {d e f : ByteArray} {y : ByteArray × ByteArray × ByteArray} (h : (d.toList.isEmpty && e.toList.isEmpty && f.toList.isEmpty) = false) : orU (d, e, f) y = (d, e, f) := by unfold orU; rw [if_neg (by rw [h]; decide)]
end Go.Proofs.YtgfgfggoofjeeaaGreat
namespace Go.Proofs.YtgfgfggoofjeeaaGreat
open Go.RowKit Go.Sort

def zF : Fil := ⟨⟨#[]⟩, ⟨#[]⟩, ⟨#[]⟩, ⟨#[]⟩, ⟨#[]⟩, ⟨#[]⟩, false⟩
/-- the result's own block, still zero -/
def OZ (w : World) (b : Nat) : Prop :=
  w.cell? ⟨b, 0, none⟩ = some (.string ⟨#[]⟩) ∧ w.cell? ⟨b, 1, none⟩ = some (.string ⟨#[]⟩) ∧ w.cell? ⟨b, 2, none⟩ = some (.string ⟨#[]⟩) ∧ w.cell? ⟨b, 3, none⟩ = some (.string ⟨#[]⟩) ∧ w.cell? ⟨b, 4, none⟩ = some (.string ⟨#[]⟩) ∧ w.cell? ⟨b, 5, none⟩ = some (.string ⟨#[]⟩) ∧ w.cell? ⟨b, 6, none⟩ = some (.bool false) ∧
  w.frozen? ⟨b, 0, none⟩ = false ∧ w.frozen? ⟨b, 1, none⟩ = false ∧ w.frozen? ⟨b, 2, none⟩ = false ∧ w.frozen? ⟨b, 3, none⟩ = false ∧ w.frozen? ⟨b, 4, none⟩ = false ∧ w.frozen? ⟨b, 5, none⟩ = false ∧ w.frozen? ⟨b, 6, none⟩ = false ∧ b < w.heap.size
theorem OZ.keep {w w' : World} {b : Nat} (h : OZ w b) (hb : Below w.heap.size w w') : OZ w' b := by
  obtain ⟨c0, c1, c2, c3, c4, c5, c6, f0, f1, f2, f3, f4, f5, f6, hs⟩ := h
  have o := own_cells hb b hs
  exact ⟨(o _).1.trans c0, (o _).1.trans c1, (o _).1.trans c2, (o _).1.trans c3, (o _).1.trans c4, (o _).1.trans c5, (o _).1.trans c6, (o _).2.trans f0, (o _).2.trans f1, (o _).2.trans f2, (o _).2.trans f3, (o _).2.trans f4, (o _).2.trans f5, (o _).2.trans f6, Nat.lt_of_lt_of_le hs hb.size⟩
theorem set_size (w : World) (a : Addr) (v : Value) : (w.setCell a v).heap.size = w.heap.size := by simp [World.setCell]
theorem set_cell (w : World) {b p o q : Nat} (v : Value) (h : ¬ b = p) : (w.setCell ⟨p, o, none⟩ v).cell? ⟨b, q, none⟩ = w.cell? ⟨b, q, none⟩ := World.cell?_setCell_other w _ _ v (fun e => by injection e with e; exact h e.symm)
theorem set_frozen (w : World) {b p o q : Nat} (v : Value) (_ : ¬ b = p) : (w.setCell ⟨p, o, none⟩ v).frozen? ⟨b, q, none⟩ = w.frozen? ⟨b, q, none⟩ := by simp
theorem FB.set {w : World} {b p o : Nat} {f : Fil} {v : Value} (h : FB w b f) (hn : ¬ b = p) : FB (w.setCell ⟨p, o, none⟩ v) b f := by
  obtain ⟨c0, c1, c2, c3, c4, c5, c6, hs⟩ := h
  have o := fun q => set_cell w (o := o) (q := q) v hn
  exact ⟨(o _).trans c0, (o _).trans c1, (o _).trans c2, (o _).trans c3, (o _).trans c4, (o _).trans c5, (o _).trans c6, by rw [set_size]; exact hs⟩
theorem OZ.set {w : World} {b p o : Nat} {v : Value} (h : OZ w b) (hn : ¬ b = p) : OZ (w.setCell ⟨p, o, none⟩ v) b := by
  obtain ⟨c0, c1, c2, c3, c4, c5, c6, f0, f1, f2, f3, f4, f5, f6, hs⟩ := h
  have k := fun q => set_frozen w (o := o) (q := q) v hn
  have o := fun q => set_cell w (o := o) (q := q) v hn
  exact ⟨(o _).trans c0, (o _).trans c1, (o _).trans c2, (o _).trans c3, (o _).trans c4, (o _).trans c5, (o _).trans c6, (k _).trans f0, (k _).trans f1, (k _).trans f2, (k _).trans f3, (k _).trans f4, (k _).trans f5, (k _).trans f6, by rw [set_size]; exact hs⟩
/-- an array of three strings of one's own -/
def P3 (w : World) (p : Nat) (x y z : ByteArray) : Prop :=
  w.cell? ⟨p, 0, none⟩ = some (.string x) ∧ w.cell? ⟨p, 1, none⟩ = some (.string y) ∧ w.cell? ⟨p, 2, none⟩ = some (.string z) ∧ w.frozen? ⟨p, 0, none⟩ = false ∧ w.frozen? ⟨p, 1, none⟩ = false ∧ w.frozen? ⟨p, 2, none⟩ = false ∧ p < w.heap.size
theorem P3.keep {w w' : World} {p : Nat} {x y z : ByteArray} (h : P3 w p x y z) (hb : Below w.heap.size w w') : P3 w' p x y z := by
  obtain ⟨c0, c1, c2, f0, f1, f2, hs⟩ := h
  have o := own_cells hb p hs
  exact ⟨(o _).1.trans c0, (o _).1.trans c1, (o _).1.trans c2, (o _).2.trans f0, (o _).2.trans f1, (o _).2.trans f2, Nat.lt_of_lt_of_le hs hb.size⟩
theorem P3.s0 {w : World} {p : Nat} {x y z u : ByteArray} (h : P3 w p x y z) : P3 (w.setCell ⟨p, 0, none⟩ (.string u)) p u y z := by
  obtain ⟨c0, c1, c2, f0, f1, f2, hs⟩ := h
  exact ⟨by go_simp, by go_simp, by go_simp, by go_simp, by go_simp, by go_simp, by rw [set_size]; exact hs⟩
theorem P3.s1 {w : World} {p : Nat} {x y z u : ByteArray} (h : P3 w p x y z) : P3 (w.setCell ⟨p, 1, none⟩ (.string u)) p x u z := by
  obtain ⟨c0, c1, c2, f0, f1, f2, hs⟩ := h
  exact ⟨by go_simp, by go_simp, by go_simp, by go_simp, by go_simp, by go_simp, by rw [set_size]; exact hs⟩
theorem P3.s2 {w : World} {p : Nat} {x y z u : ByteArray} (h : P3 w p x y z) : P3 (w.setCell ⟨p, 2, none⟩ (.string u)) p x y u := by
  obtain ⟨c0, c1, c2, f0, f1, f2, hs⟩ := h
  exact ⟨by go_simp, by go_simp, by go_simp, by go_simp, by go_simp, by go_simp, by rw [set_size]; exact hs⟩

end Go.Proofs.YtgfgfggoofjeeaaGreat
namespace Go.Proofs.YtgfgfggoofjeeaaGreat
open Go.RowKit Go.Sort

/-- a field of a text: "*" is none -/
def star (s : ByteArray) : ByteArray := if s = ⟨#[42]⟩ then ⟨#[]⟩ else s
def okS (s : ByteArray) : Bool := decide (s = ⟨#[42]⟩) || nb s
/-- the fields of a goal's text, and the number of the error -/
def gpar (g : ByteArray) : ByteArray × ByteArray × ByteArray × Int :=
  if ¬ cn g 58 = 1 ∨ ¬ cn g 35 = 1 ∨ ix g 35 < ix g 58 then (⟨#[]⟩, ⟨#[]⟩, ⟨#[]⟩, 5)
  else if okS (g.extract 0 (ix g 58)) && okS (g.extract (ix g 58 + 1) (ix g 35)) && okS (g.extract (ix g 35 + 1) g.size) then (star (g.extract 0 (ix g 58)), star (g.extract (ix g 58 + 1) (ix g 35)), star (g.extract (ix g 35 + 1) g.size), 0)
  else (⟨#[]⟩, ⟨#[]⟩, ⟨#[]⟩, 6)
theorem gpar5 {g : ByteArray} (h : ¬ cn g 58 = 1 ∨ ¬ cn g 35 = 1 ∨ ix g 35 < ix g 58) : gpar g = (⟨#[]⟩, ⟨#[]⟩, ⟨#[]⟩, 5) := by unfold gpar; rw [if_pos h]
theorem gpar6 {g x y z : ByteArray} (h : ¬ (¬ cn g 58 = 1 ∨ ¬ cn g 35 = 1 ∨ ix g 35 < ix g 58)) (hx : g.extract 0 (ix g 58) = x) (hy : g.extract (ix g 58 + 1) (ix g 35) = y) (hz : g.extract (ix g 35 + 1) g.size = z) (k : (okS x && okS y && okS z) = false) : gpar g = (⟨#[]⟩, ⟨#[]⟩, ⟨#[]⟩, 6) := by
  unfold gpar; rw [if_neg h, hx, hy, hz, if_neg (by rw [k]; decide)]
theorem gpar0 {g x y z : ByteArray} (h : ¬ (¬ cn g 58 = 1 ∨ ¬ cn g 35 = 1 ∨ ix g 35 < ix g 58)) (hx : g.extract 0 (ix g 58) = x) (hy : g.extract (ix g 58 + 1) (ix g 35) = y) (hz : g.extract (ix g 35 + 1) g.size = z) (k : (okS x && okS y && okS z) = true) : gpar g = (star x, star y, star z, 0) := by
  unfold gpar; rw [if_neg h, hx, hy, hz, if_pos k]
/-- where the space has the sign of the relation -/
theorem sign_in {s : ByteArray} (h : cn s 58 = 1) (k : cn s 35 = 1) : decide (0 ≤ Lib.indexByte (divF s).1.data.toList 35) = decide (ix s 35 < ix s 58) := by
  by_cases h3 : ix s 35 < ix s 58
  · have e3 : (divF s).1 = s.extract 0 (ix s 58) := by unfold divF; rw [cutB_ix s 58, if_neg (by omega)]
    have e4 : 0 < cn (s.extract 0 (ix s 58)) 35 := by
      have e5 := at_ix s 35 (by omega)
      unfold cn Lib.countByte
      rw [ext_take]
      refine List.count_pos_iff.2 (List.mem_of_getElem? (i := ix s 35) ?_)
      rw [List.getElem?_take_of_lt h3]; exact e5
    rw [e3, index_cn, if_neg (by omega), decide_eq_true h3, decide_eq_true (by omega)]
  · obtain ⟨s1, s2, s3⟩ := second s (by omega) h3
    have e3 : (divF s).1 = s.extract 0 (ix s 58) := by rw [div_ix s (by omega) h3]
    rw [e3, index_cn, if_pos s1, decide_eq_false h3]; rfl
theorem star_y : star ⟨#[42]⟩ = ⟨#[]⟩ := by unfold star; rw [if_pos rfl]
theorem star_n {s : ByteArray} (h : ¬ s = ⟨#[42]⟩) : star s = s := by unfold star; rw [if_neg h]
theorem okS_y : okS ⟨#[42]⟩ = true := by unfold okS; simp
theorem okS_n {s : ByteArray} (h : nb s = true) : okS s = true := by unfold okS; rw [h, Bool.or_true]
theorem okS_no {s : ByteArray} (h : ¬ s = ⟨#[42]⟩) (k : nb s = false) : okS s = false := by unfold okS; rw [k, decide_eq_false h]; rfl
theorem st_cases (s : ByteArray) : s = ⟨#[42]⟩ ∨ ((s.toList == [42]) = false ∧ ¬ s = ⟨#[42]⟩) := by
  by_cases h : s = ⟨#[42]⟩
  · exact .inl h
  · refine .inr ⟨?_, h⟩
    rw [← show (⟨#[42]⟩ : ByteArray).toList = [42] by rw [ByteArray.toList_eq], toList_beq, decide_eq_false h]

def PgRet (s : ByteArray) (w : World) (e : Ending) (w' : World) : Prop :=
  e = .returned (.tuple #[.agg #[.string (gpar s).1, .string (gpar s).2.1, .string (gpar s).2.2.1, .string ⟨#[]⟩, .string ⟨#[]⟩, .string ⟨#[]⟩, .bool false], .int .i64 (gpar s).2.2.2]) ∧ Below w.heap.size w w'
attribute [local go_sem] drewN_setCell drewN_alloc

set_option maxRecDepth 20000 in
set_option maxHeartbeats 2000000 in
theorem pg_a (s x r0 y z : ByteArray) (b1 b2 : Bool) (w : World) (hs : s.size ≤ maxLen) (h1 : cutB s 58 = (x, r0, b1)) (h2 : cutB r0 35 = (y, z, b2)) (n : Nat) (hn : cn s 58 = n) (h0 : ¬ n = 1) :
    Calls Tryz.prog 67 #[.string s] w (PgRet s w) := by
  have HK := hid (gpar5 (.inl (by rw [hn]; exact h0)))
  have HN := hid hn; clear hn
  have h0' : ¬ (n : Int) = 1 := by omega
  clear h0
  have hr : r0.size ≤ maxLen := by have := cutB_size s 58; rw [h1] at this; exact Nat.le_trans this hs
  have H1 := hid h1; clear h1
  have H2 := hid h2; clear h2
  go_enter Tryz.func67, Tryz.ntmps67
  go_wp2_with fail
  refine (cut_v s x r0 58 b1 _ hs H1.out).mono ?_
  rintro e w' ⟨rfl, d1, rfl⟩
  go_wp2_with fail
  refine (cut_v r0 y z 35 b2 _ hr H2.out).mono ?_
  rintro e w' ⟨rfl, d2, rfl⟩
  go_wp2_with fail
  refine (cnt s 58 n _ HN.out).mono ?_
  rintro e w' ⟨rfl, rfl⟩
  go_wp2
  (try simp only [Exit.inBlock, Exit.then])
  refine bodyPost_ret (v := .tuple #[.agg #[.string ⟨#[]⟩, .string ⟨#[]⟩, .string ⟨#[]⟩, .string ⟨#[]⟩, .string ⟨#[]⟩, .string ⟨#[]⟩, .bool false], .int .i64 5]) ?_ rfl ?_
  · simp [results, Tryz.results67, go_sem, *]
  · refine ⟨by rw [HK.out], ?_⟩
    repeat (first | (with_reducible refine g_alloc ?_ _) | (with_reducible refine g_drewN ?_ _) | (with_reducible refine g_set ?_ (Nat.le_refl _) _))
    with_reducible exact g_refl

set_option maxRecDepth 20000 in
set_option maxHeartbeats 2000000 in
theorem pg_b (s x r0 y z : ByteArray) (b1 b2 : Bool) (w : World) (hs : s.size ≤ maxLen) (h1 : cutB s 58 = (x, r0, b1)) (h2 : cutB r0 35 = (y, z, b2)) (n : Nat) (h58 : cn s 58 = 1) (hn : cn s 35 = n) (h0 : ¬ n = 1) :
    Calls Tryz.prog 67 #[.string s] w (PgRet s w) := by
  have HK := hid (gpar5 (.inr (.inl (by rw [hn]; exact h0))))
  have HM := hid h58; clear h58
  have HN := hid hn; clear hn
  have h0' : ¬ (n : Int) = 1 := by omega
  clear h0
  have hr : r0.size ≤ maxLen := by have := cutB_size s 58; rw [h1] at this; exact Nat.le_trans this hs
  have H1 := hid h1; clear h1
  have H2 := hid h2; clear h2
  go_enter Tryz.func67, Tryz.ntmps67
  go_wp2_with fail
  refine (cut_v s x r0 58 b1 _ hs H1.out).mono ?_
  rintro e w' ⟨rfl, d1, rfl⟩
  go_wp2_with fail
  refine (cut_v r0 y z 35 b2 _ hr H2.out).mono ?_
  rintro e w' ⟨rfl, d2, rfl⟩
  go_wp2_with fail
  refine (cnt s 58 1 _ HM.out).mono ?_
  rintro e w' ⟨rfl, rfl⟩
  go_wp2_with fail
  refine (cnt s 35 n _ HN.out).mono ?_
  rintro e w' ⟨rfl, rfl⟩
  go_wp2
  (try simp only [Exit.inBlock, Exit.then])
  refine bodyPost_ret (v := .tuple #[.agg #[.string ⟨#[]⟩, .string ⟨#[]⟩, .string ⟨#[]⟩, .string ⟨#[]⟩, .string ⟨#[]⟩, .string ⟨#[]⟩, .bool false], .int .i64 5]) ?_ rfl ?_
  · simp [results, Tryz.results67, go_sem, *]
  · refine ⟨by rw [HK.out], ?_⟩
    repeat (first | (with_reducible refine g_alloc ?_ _) | (with_reducible refine g_drewN ?_ _) | (with_reducible refine g_set ?_ (Nat.le_refl _) _))
    with_reducible exact g_refl

set_option maxRecDepth 20000 in
set_option maxHeartbeats 2000000 in
theorem pg_c (s x r0 y z : ByteArray) (b1 b2 : Bool) (w : World) (hs : s.size ≤ maxLen) (h1 : cutB s 58 = (x, r0, b1)) (h2 : cutB r0 35 = (y, z, b2)) (h58 : cn s 58 = 1) (hn : cn s 35 = 1) (h0 : ix s 35 < ix s 58) :
    Calls Tryz.prog 67 #[.string s] w (PgRet s w) := by
  have HK := hid (gpar5 (.inr (.inr h0)))
  have hx : (divF s).1 = x := by unfold divF; rw [h1]
  have HX := hid (sign_in h58 hn)
  rw [hx, decide_eq_true h0] at HX
  have HM := hid h58; clear h58
  have HN := hid hn; clear hn
  clear h0 hx
  have hr : r0.size ≤ maxLen := by have := cutB_size s 58; rw [h1] at this; exact Nat.le_trans this hs
  have H1 := hid h1; clear h1
  have H2 := hid h2; clear h2
  go_enter Tryz.func67, Tryz.ntmps67
  go_wp2_with fail
  refine (cut_v s x r0 58 b1 _ hs H1.out).mono ?_
  rintro e w' ⟨rfl, d1, rfl⟩
  go_wp2_with fail
  refine (cut_v r0 y z 35 b2 _ hr H2.out).mono ?_
  rintro e w' ⟨rfl, d2, rfl⟩
  go_wp2_with fail
  refine (cnt s 58 1 _ HM.out).mono ?_
  rintro e w' ⟨rfl, rfl⟩
  go_wp2_with fail
  refine (cnt s 35 1 _ HN.out).mono ?_
  rintro e w' ⟨rfl, rfl⟩
  go_wp2_with fail
  refine (has x 35 true _ HX.out).mono ?_
  rintro e w' ⟨rfl, rfl⟩
  go_wp2
  (try simp only [Exit.inBlock, Exit.then])
  refine bodyPost_ret (v := .tuple #[.agg #[.string ⟨#[]⟩, .string ⟨#[]⟩, .string ⟨#[]⟩, .string ⟨#[]⟩, .string ⟨#[]⟩, .string ⟨#[]⟩, .bool false], .int .i64 5]) ?_ rfl ?_
  · simp [results, Tryz.results67, go_sem, *]
  · refine ⟨by rw [HK.out], ?_⟩
    repeat (first | (with_reducible refine g_alloc ?_ _) | (with_reducible refine g_drewN ?_ _) | (with_reducible refine g_set ?_ (Nat.le_refl _) _))
    with_reducible exact g_refl

/-- what the loop over the fields holds -/
def GL (x y z : ByteArray) (p : Nat) (w : World) (k : Nat) (wr : World) : Prop :=
  OZ wr w.heap.size ∧ (∃ z0 z1 z2, P3 wr p z0 z1 z2 ∧ (z0 = if 0 < k then star x else x) ∧ (z1 = if 1 < k then star y else y) ∧ (z2 = if 2 < k then star z else z) ∧ (0 < k → okS x = true) ∧ (1 < k → okS y = true) ∧ (2 < k → okS z = true)) ∧ Below w.heap.size w wr
theorem GL.z {x y z : ByteArray} {p : Nat} {w wr : World} (h1 : OZ wr w.heap.size) (h2 : P3 wr p x y z) (h3 : Below w.heap.size w wr) : GL x y z p w 0 wr :=
  ⟨h1, ⟨_, _, _, h2, rfl, rfl, rfl, fun h => absurd h (by omega), fun h => absurd h (by omega), fun h => absurd h (by omega)⟩, h3⟩
theorem GL.n0 {x y z : ByteArray} {p : Nat} {w wr : World} (h : GL x y z p w 0 wr) (hn : star x = x) (hc : okS x = true) : GL x y z p w (0+1) wr := by
  obtain ⟨h1, ⟨z0, z1, z2, hP, e0, e1, e2, g0, g1, g2⟩, hB⟩ := h
  refine ⟨h1, ⟨z0, z1, z2, hP, ?_, ?_, ?_, fun _ => hc, fun h => absurd h (by omega), fun h => absurd h (by omega)⟩, hB⟩
  · rw [e0]; simp [hn]
  · rw [e1]; simp
  · rw [e2]; simp
theorem GL.s0 {x y z : ByteArray} {p : Nat} {w wr : World} (h : GL x y z p w 0 wr) (hp : w.heap.size < p) (hn : star x = ⟨#[]⟩) (hc : okS x = true) : GL x y z p w (0+1) (wr.setCell ⟨p, 0, none⟩ (.string ⟨#[]⟩)) := by
  obtain ⟨h1, ⟨z0, z1, z2, hP, e0, e1, e2, g0, g1, g2⟩, hB⟩ := h
  refine ⟨h1.set (by omega), ⟨_, _, _, hP.s0, ?_, ?_, ?_, fun _ => hc, fun h => absurd h (by omega), fun h => absurd h (by omega)⟩, g_set hB (show w.heap.size ≤ p by omega) _⟩
  · simp [hn]
  · rw [e1]; simp
  · rw [e2]; simp
theorem GL.n1 {x y z : ByteArray} {p : Nat} {w wr : World} (h : GL x y z p w 1 wr) (hn : star y = y) (hc : okS y = true) : GL x y z p w (1+1) wr := by
  obtain ⟨h1, ⟨z0, z1, z2, hP, e0, e1, e2, g0, g1, g2⟩, hB⟩ := h
  refine ⟨h1, ⟨z0, z1, z2, hP, ?_, ?_, ?_, fun _ => g0 (by omega), fun _ => hc, fun h => absurd h (by omega)⟩, hB⟩
  · rw [e0]; simp
  · rw [e1]; simp [hn]
  · rw [e2]; simp
theorem GL.s1 {x y z : ByteArray} {p : Nat} {w wr : World} (h : GL x y z p w 1 wr) (hp : w.heap.size < p) (hn : star y = ⟨#[]⟩) (hc : okS y = true) : GL x y z p w (1+1) (wr.setCell ⟨p, 1, none⟩ (.string ⟨#[]⟩)) := by
  obtain ⟨h1, ⟨z0, z1, z2, hP, e0, e1, e2, g0, g1, g2⟩, hB⟩ := h
  refine ⟨h1.set (by omega), ⟨_, _, _, hP.s1, ?_, ?_, ?_, fun _ => g0 (by omega), fun _ => hc, fun h => absurd h (by omega)⟩, g_set hB (show w.heap.size ≤ p by omega) _⟩
  · rw [e0]; simp
  · simp [hn]
  · rw [e2]; simp
theorem GL.n2 {x y z : ByteArray} {p : Nat} {w wr : World} (h : GL x y z p w 2 wr) (hn : star z = z) (hc : okS z = true) : GL x y z p w (2+1) wr := by
  obtain ⟨h1, ⟨z0, z1, z2, hP, e0, e1, e2, g0, g1, g2⟩, hB⟩ := h
  refine ⟨h1, ⟨z0, z1, z2, hP, ?_, ?_, ?_, fun _ => g0 (by omega), fun _ => g1 (by omega), fun _ => hc⟩, hB⟩
  · rw [e0]; simp
  · rw [e1]; simp
  · rw [e2]; simp [hn]
theorem GL.s2 {x y z : ByteArray} {p : Nat} {w wr : World} (h : GL x y z p w 2 wr) (hp : w.heap.size < p) (hn : star z = ⟨#[]⟩) (hc : okS z = true) : GL x y z p w (2+1) (wr.setCell ⟨p, 2, none⟩ (.string ⟨#[]⟩)) := by
  obtain ⟨h1, ⟨z0, z1, z2, hP, e0, e1, e2, g0, g1, g2⟩, hB⟩ := h
  refine ⟨h1.set (by omega), ⟨_, _, _, hP.s2, ?_, ?_, ?_, fun _ => g0 (by omega), fun _ => g1 (by omega), fun _ => hc⟩, g_set hB (show w.heap.size ≤ p by omega) _⟩
  · rw [e0]; simp
  · rw [e1]; simp
  · simp [hn]

set_option maxRecDepth 20000 in
set_option maxHeartbeats 2000000 in
theorem pg_d (s x r0 y z : ByteArray) (b1 b2 : Bool) (w : World) (hs : s.size ≤ maxLen) (h1 : cutB s 58 = (x, r0, b1)) (h2 : cutB r0 35 = (y, z, b2)) (h58 : cn s 58 = 1) (hn : cn s 35 = 1) (h0 : ¬ ix s 35 < ix s 58) :
    Calls Tryz.prog 67 #[.string s] w (PgRet s w) := by
  have hd := div_ix s (by omega) h0
  have hx : divF s = (x, y, z) := by unfold divF; rw [h1]; simp only; rw [h2]
  have HX := hid (sign_in h58 hn)
  rw [hx, if_neg (by omega)] at hd
  rw [hx, decide_eq_false h0] at HX
  simp only [Prod.mk.injEq] at hd
  have hno : ¬ (¬ cn s 58 = 1 ∨ ¬ cn s 35 = 1 ∨ ix s 35 < ix s 58) := by omega
  have HK6 := hid (fun k => gpar6 hno hd.1.symm hd.2.1.symm hd.2.2.symm k)
  have HK0 := hid (fun k => gpar0 hno hd.1.symm hd.2.1.symm hd.2.2.symm k)
  have hsz := div_sizes s
  rw [hx] at hsz
  have sx := Nat.le_trans hsz.1 hs
  have sy := Nat.le_trans hsz.2.1 hs
  have sz := Nat.le_trans hsz.2.2 hs
  simp only at sx sy sz
  have HM := hid h58; clear h58
  have HN := hid hn; clear hn
  clear h0 hx hd hno hsz
  have i0 := ar0 x y z
  have i1 := ar1 x y z
  have i2 := ar2 x y z
  have hr : r0.size ≤ maxLen := by have := cutB_size s 58; rw [h1] at this; exact Nat.le_trans this hs
  have H1 := hid h1; clear h1
  have H2 := hid h2; clear h2
  go_enter Tryz.func67, Tryz.ntmps67
  go_wp2_with fail
  refine (cut_v s x r0 58 b1 _ hs H1.out).mono ?_
  rintro e w' ⟨rfl, d1, rfl⟩
  go_wp2_with fail
  refine (cut_v r0 y z 35 b2 _ hr H2.out).mono ?_
  rintro e w' ⟨rfl, d2, rfl⟩
  go_wp2_with fail
  refine (cnt s 58 1 _ HM.out).mono ?_
  rintro e w' ⟨rfl, rfl⟩
  go_wp2_with fail
  refine (cnt s 35 1 _ HN.out).mono ?_
  rintro e w' ⟨rfl, rfl⟩
  go_wp2_with fail
  refine (has x 35 false _ HX.out).mono ?_
  rintro e w' ⟨rfl, rfl⟩
  go_wp2
  have hp : w.heap.size < w.heap.size + 1 := by omega
  go_loopw [44] (fun i wr => ∃ k : Nat, k ≤ 3 ∧ i = .int .i64 k ∧ GL x y z (w.heap.size + 1) w k wr) (fun i _ => 3 - (intOf i).toNat)
  case atStart => exact ⟨0, by omega, rfl, GL.z (by simp only [OZ]; exact ⟨by go_simp, by go_simp, by go_simp, by go_simp, by go_simp, by go_simp, by go_simp, by go_simp, by go_simp, by go_simp, by go_simp, by go_simp, by go_simp, by go_simp, by simp <;> omega⟩) (by simp only [P3]; exact ⟨by go_simp, by go_simp, by go_simp, by go_simp, by go_simp, by go_simp, by simp <;> omega⟩) (by repeat (first | (with_reducible exact g_refl) | (with_reducible refine g_drewN ?_ _) | (with_reducible refine g_alloc ?_ _)))⟩
  case round =>
    obtain ⟨k, hk, rfl, hgl⟩ := hrel
    have HGL := hid hgl
    obtain ⟨h1, ⟨z0, z1, z2, hP, e0, e1, e2, g0, g1, g2⟩, hB⟩ := hgl
    have HG0 := hid g0; clear g0
    have HG1 := hid g1; clear g1
    have HG2 := hid g2; clear g2
    have HE0 := hid e0; clear e0
    have HE1 := hid e1; clear e1
    have HE2 := hid e2; clear e2
    have H3 := hid h1; clear h1
    obtain ⟨m0, m1, m2, y0, y1, y2, hpw⟩ := hP
    rcases (show k = 0 ∨ k = 1 ∨ k = 2 ∨ k = 3 by omega) with rfl | rfl | rfl | rfl <;> clear hk
    · rcases st_cases x with q | ⟨q, nq⟩
      · have hq : (x.toList == [42]) = true := by rw [q, ByteArray.toList_eq]; rfl
        have HC : Hid (star x = ⟨#[]⟩ ∧ okS x = true) := hid (by rw [q]; exact ⟨star_y, okS_y⟩)
        clear q
        go_wp2
        go_roundw
        case rel => exact ⟨0+1, by omega, by go_num, GL.s0 HGL.out hp HC.out.1 HC.out.2⟩
        case measure => simp [intOf]
      · cases nn : nb x
        · have HK := hid (HK6.out (by rw [okS_no nq nn]; rfl))
          have HN2 := hid nn
          clear nq nn
          obtain ⟨o0, o1, o2, o3, o4, o5, o6, u0, u1, u2, u3, u4, u5, u6, u7⟩ := H3.out
          go_wp2_with fail
          refine (check_no x _ sx HN2.out).mono ?_
          rintro r w' ⟨rfl, rfl⟩
          go_wp2
          (try simp only [Exit.inBlock, Exit.then])
          refine bodyPost_ret (v := .tuple #[.agg #[.string ⟨#[]⟩, .string ⟨#[]⟩, .string ⟨#[]⟩, .string ⟨#[]⟩, .string ⟨#[]⟩, .string ⟨#[]⟩, .bool false], .int .i64 6]) ?_ rfl ?_
          · simp [results, Tryz.results67, go_sem, *]
          · refine ⟨by rw [HK.out], ?_⟩
            repeat (first | (with_reducible refine g_alloc ?_ _) | (with_reducible refine g_drewN ?_ _) | (with_reducible refine g_set ?_ (Nat.le_refl _) _))
            with_reducible exact hB
        · have HC : Hid (star x = x ∧ okS x = true) := hid ⟨star_n nq, okS_n nn⟩
          have HN2 := hid nn
          clear nq nn
          go_wp2_with fail
          refine (check_yes x _ sx HN2.out).mono ?_
          rintro r w' ⟨rfl, rfl⟩
          go_wp2
          go_roundw
          case rel => exact ⟨0+1, by omega, by go_num, GL.n0 HGL.out HC.out.1 HC.out.2⟩
          case measure => simp [intOf]
    · rcases st_cases y with q | ⟨q, nq⟩
      · have hq : (y.toList == [42]) = true := by rw [q, ByteArray.toList_eq]; rfl
        have HC : Hid (star y = ⟨#[]⟩ ∧ okS y = true) := hid (by rw [q]; exact ⟨star_y, okS_y⟩)
        clear q
        go_wp2
        go_roundw
        case rel => exact ⟨1+1, by omega, by go_num, GL.s1 HGL.out hp HC.out.1 HC.out.2⟩
        case measure => simp [intOf]
      · cases nn : nb y
        · have HK := hid (HK6.out (by rw [okS_no nq nn, Bool.and_false]; rfl))
          have HN2 := hid nn
          clear nq nn
          obtain ⟨o0, o1, o2, o3, o4, o5, o6, u0, u1, u2, u3, u4, u5, u6, u7⟩ := H3.out
          go_wp2_with fail
          refine (check_no y _ sy HN2.out).mono ?_
          rintro r w' ⟨rfl, rfl⟩
          go_wp2
          (try simp only [Exit.inBlock, Exit.then])
          refine bodyPost_ret (v := .tuple #[.agg #[.string ⟨#[]⟩, .string ⟨#[]⟩, .string ⟨#[]⟩, .string ⟨#[]⟩, .string ⟨#[]⟩, .string ⟨#[]⟩, .bool false], .int .i64 6]) ?_ rfl ?_
          · simp [results, Tryz.results67, go_sem, *]
          · refine ⟨by rw [HK.out], ?_⟩
            repeat (first | (with_reducible refine g_alloc ?_ _) | (with_reducible refine g_drewN ?_ _) | (with_reducible refine g_set ?_ (Nat.le_refl _) _))
            with_reducible exact hB
        · have HC : Hid (star y = y ∧ okS y = true) := hid ⟨star_n nq, okS_n nn⟩
          have HN2 := hid nn
          clear nq nn
          go_wp2_with fail
          refine (check_yes y _ sy HN2.out).mono ?_
          rintro r w' ⟨rfl, rfl⟩
          go_wp2
          go_roundw
          case rel => exact ⟨1+1, by omega, by go_num, GL.n1 HGL.out HC.out.1 HC.out.2⟩
          case measure => simp [intOf]
    · rcases st_cases z with q | ⟨q, nq⟩
      · have hq : (z.toList == [42]) = true := by rw [q, ByteArray.toList_eq]; rfl
        have HC : Hid (star z = ⟨#[]⟩ ∧ okS z = true) := hid (by rw [q]; exact ⟨star_y, okS_y⟩)
        clear q
        go_wp2
        go_roundw
        case rel => exact ⟨2+1, by omega, by go_num, GL.s2 HGL.out hp HC.out.1 HC.out.2⟩
        case measure => simp [intOf]
      · cases nn : nb z
        · have HK := hid (HK6.out (by rw [okS_no nq nn, Bool.and_false]))
          have HN2 := hid nn
          clear nq nn
          obtain ⟨o0, o1, o2, o3, o4, o5, o6, u0, u1, u2, u3, u4, u5, u6, u7⟩ := H3.out
          go_wp2_with fail
          refine (check_no z _ sz HN2.out).mono ?_
          rintro r w' ⟨rfl, rfl⟩
          go_wp2
          (try simp only [Exit.inBlock, Exit.then])
          refine bodyPost_ret (v := .tuple #[.agg #[.string ⟨#[]⟩, .string ⟨#[]⟩, .string ⟨#[]⟩, .string ⟨#[]⟩, .string ⟨#[]⟩, .string ⟨#[]⟩, .bool false], .int .i64 6]) ?_ rfl ?_
          · simp [results, Tryz.results67, go_sem, *]
          · refine ⟨by rw [HK.out], ?_⟩
            repeat (first | (with_reducible refine g_alloc ?_ _) | (with_reducible refine g_drewN ?_ _) | (with_reducible refine g_set ?_ (Nat.le_refl _) _))
            with_reducible exact hB
        · have HC : Hid (star z = z ∧ okS z = true) := hid ⟨star_n nq, okS_n nn⟩
          have HN2 := hid nn
          clear nq nn
          go_wp2_with fail
          refine (check_yes z _ sz HN2.out).mono ?_
          rintro r w' ⟨rfl, rfl⟩
          go_wp2
          go_roundw
          case rel => exact ⟨2+1, by omega, by go_num, GL.n2 HGL.out HC.out.1 HC.out.2⟩
          case measure => simp [intOf]
    · have f0 : z0 = star x := by have := HE0.out; simpa using this
      have f1 : z1 = star y := by have := HE1.out; simpa using this
      have f2 : z2 = star z := by have := HE2.out; simpa using this
      have HK := hid (HK0.out (by rw [HG0.out (by omega), HG1.out (by omega), HG2.out (by omega)]; rfl))
      rw [f0] at m0
      rw [f1] at m1
      rw [f2] at m2
      clear f0 f1 f2
      obtain ⟨o0, o1, o2, o3, o4, o5, o6, u0, u1, u2, u3, u4, u5, u6, u7⟩ := H3.out
      go_wp2
      (try simp only [Exit.inBlock, Exit.then])
      refine bodyPost_ret (v := .tuple #[.agg #[.string (star x), .string (star y), .string (star z), .string ⟨#[]⟩, .string ⟨#[]⟩, .string ⟨#[]⟩, .bool false], .int .i64 0]) ?_ rfl ?_
      · simp [results, Tryz.results67, go_sem, *]
      · refine ⟨by rw [HK.out], ?_⟩
        repeat (first | (with_reducible refine g_alloc ?_ _) | (with_reducible refine g_drewN ?_ _) | (with_reducible refine g_set ?_ (Nat.le_refl _) _))
        with_reducible exact hB

theorem parseG (s : ByteArray) (w : World) (hs : s.size ≤ maxLen) : Calls Tryz.prog 67 #[.string s] w (PgRet s w) := by
  obtain ⟨⟨x, r0, b1⟩, h1⟩ : ∃ t, cutB s 58 = t := ⟨_, rfl⟩
  obtain ⟨⟨y, z, b2⟩, h2⟩ : ∃ t, cutB r0 35 = t := ⟨_, rfl⟩
  by_cases h58 : cn s 58 = 1
  · by_cases h35 : cn s 35 = 1
    · by_cases h0 : ix s 35 < ix s 58
      · exact pg_c s x r0 y z b1 b2 w hs h1 h2 h58 h35 h0
      · exact pg_d s x r0 y z b1 b2 w hs h1 h2 h58 h35 h0
    · exact pg_b s x r0 y z b1 b2 w hs h1 h2 _ h58 rfl h35
  · exact pg_a s x r0 y z b1 b2 w hs h1 h2 _ rfl h58
end Go.Proofs.YtgfgfggoofjeeaaGreat
namespace Go.Proofs.YtgfgfggoofjeeaaGreat
open Go.RowKit Go.Sort

/-- the goal's part of a text -/
def gof (s : ByteArray) : ByteArray := if cn s 64 = 0 then s else s.extract 0 (ix s 64)
/-- the filter of a text, and the number of the error -/
def fpar (s : ByteArray) : Fil × Int :=
  if 1 < cn s 64 then (zF, 5)
  else if ¬ (gpar (gof s)).2.2.2 = 0 then (zF, (gpar (gof s)).2.2.2)
  else if cn s 64 = 0 then (⟨(gpar (gof s)).1, (gpar (gof s)).2.1, (gpar (gof s)).2.2.1, ⟨#[]⟩, ⟨#[]⟩, ⟨#[]⟩, false⟩, 0)
  else if ¬ (parseF (s.extract (ix s 64 + 1) s.size) 0 1).2.2.2 = 0 then (zF, (parseF (s.extract (ix s 64 + 1) s.size) 0 1).2.2.2)
  else (⟨(gpar (gof s)).1, (gpar (gof s)).2.1, (gpar (gof s)).2.2.1, (parseF (s.extract (ix s 64 + 1) s.size) 0 1).1, (parseF (s.extract (ix s 64 + 1) s.size) 0 1).2.1, (parseF (s.extract (ix s 64 + 1) s.size) 0 1).2.2.1, true⟩, 0)
theorem fpar_many {s : ByteArray} (h : 1 < cn s 64) : fpar s = (zF, 5) := by unfold fpar; rw [if_pos h]
theorem fpar_gerr {s a b c : ByteArray} {e : Int} (h : ¬ 1 < cn s 64) (hg : gpar (gof s) = (a, b, c, e)) (he : ¬ e = 0) : fpar s = (zF, e) := by unfold fpar; rw [if_neg h, hg, if_pos he]
theorem fpar_plain {s a b c : ByteArray} (h : cn s 64 = 0) (hg : gpar (gof s) = (a, b, c, 0)) : fpar s = (⟨a, b, c, ⟨#[]⟩, ⟨#[]⟩, ⟨#[]⟩, false⟩, 0) := by unfold fpar; rw [if_neg (by omega), hg, if_neg (fun h => h rfl), if_pos h]
theorem fpar_serr {s a b c d e f : ByteArray} {n : Int} (h : cn s 64 = 1) (hg : gpar (gof s) = (a, b, c, 0)) (hu : parseF (s.extract (ix s 64 + 1) s.size) 0 1 = (d, e, f, n)) (hn : ¬ n = 0) : fpar s = (zF, n) := by
  unfold fpar; rw [if_neg (by omega), hg, if_neg (fun h => h rfl), if_neg (by omega), hu, if_pos hn]
theorem fpar_sub {s a b c d e f : ByteArray} (h : cn s 64 = 1) (hg : gpar (gof s) = (a, b, c, 0)) (hu : parseF (s.extract (ix s 64 + 1) s.size) 0 1 = (d, e, f, 0)) : fpar s = (⟨a, b, c, d, e, f, true⟩, 0) := by
  unfold fpar; rw [if_neg (by omega), hg, if_neg (fun h => h rfl), if_neg (by omega), hu, if_neg (fun h => h rfl)]
def FParRet (s : ByteArray) (w : World) (e : Ending) (w' : World) : Prop := e = .returned (.tuple #[valF (fpar s).1, .int .i64 (fpar s).2]) ∧ Below w.heap.size w w'
theorem parseG_v (s a b c : ByteArray) (e : Int) (w : World) (hs : s.size ≤ maxLen) (h : gpar s = (a, b, c, e)) :
    Calls Tryz.prog 67 #[.string s] w fun r w' => r = .returned (.tuple #[.agg #[.string a, .string b, .string c, .string ⟨#[]⟩, .string ⟨#[]⟩, .string ⟨#[]⟩, .bool false], .int .i64 e]) ∧ Below w.heap.size w w' := by
  have q := parseG s w hs; unfold PgRet at q; rw [h] at q; exact q
attribute [local go_sem] drewN_setCell drewN_alloc

set_option maxRecDepth 20000 in
set_option maxHeartbeats 2000000 in
theorem par_many (s x r : ByteArray) (ex : Bool)  (w : World) (hs : s.size ≤ maxLen) (_hx : x.size ≤ maxLen) (_hr : r.size ≤ maxLen) (h1 : cutB s 64 = (x, r, ex)) (hb : decide (0 ≤ Lib.indexByte r.data.toList 64) = true) (hk : fpar s = (zF, 5)) :
    Calls Tryz.prog 43 #[.string s] w (FParRet s w) := by
  have HK := hid hk; clear hk
  have HB := hid hb; clear hb
  have H1 := hid h1; clear h1
  go_enter Tryz.func43, Tryz.ntmps43
  go_wp2_with fail
  refine (cut_v s x r 64 _ _ hs H1.out).mono ?_
  rintro e0 w' ⟨rfl, d1, rfl⟩
  go_wp2_with fail
  refine (has r 64 true _ HB.out).mono ?_
  rintro e0 w' ⟨rfl, rfl⟩
  go_wp2
  (try simp only [Exit.inBlock, Exit.then])
  refine bodyPost_ret (v := .tuple #[.agg #[.string ⟨#[]⟩, .string ⟨#[]⟩, .string ⟨#[]⟩, .string ⟨#[]⟩, .string ⟨#[]⟩, .string ⟨#[]⟩, .bool false], .int .i64 5]) ?_ rfl ?_
  · simp [results, Tryz.results43, go_sem, *]
  · refine ⟨by rw [HK.out]; rfl, ?_⟩
    repeat (first | (with_reducible refine g_alloc ?_ _) | (with_reducible refine g_drewN ?_ _) | (with_reducible refine g_set ?_ (Nat.le_refl _) _))
    with_reducible exact g_refl

set_option maxRecDepth 20000 in
set_option maxHeartbeats 2000000 in
theorem par_gerr (s x r : ByteArray) (ex : Bool) (a b c : ByteArray) (n : Int) (w : World) (hs : s.size ≤ maxLen) (hx : x.size ≤ maxLen) (_hr : r.size ≤ maxLen) (h1 : cutB s 64 = (x, r, ex)) (hb : decide (0 ≤ Lib.indexByte r.data.toList 64) = false) (hg : gpar x = (a, b, c, n)) (hn : ¬ n = 0) (hk : fpar s = (zF, n)) :
    Calls Tryz.prog 43 #[.string s] w (FParRet s w) := by
  have HK := hid hk; clear hk
  have HB := hid hb; clear hb
  have HG := hid hg; clear hg
  have H1 := hid h1; clear h1
  go_enter Tryz.func43, Tryz.ntmps43
  go_wp2_with fail
  refine (cut_v s x r 64 _ _ hs H1.out).mono ?_
  rintro e0 w' ⟨rfl, d1, rfl⟩
  go_wp2_with fail
  refine (has r 64 false _ HB.out).mono ?_
  rintro e0 w' ⟨rfl, rfl⟩
  go_wp2_with fail
  refine (parseG_v x a b c n _ hx HG.out).mono ?_
  rintro e0 w1 ⟨rfl, hw1⟩
  have HOZ : Hid (OZ w1 w.heap.size) := hid (OZ.keep (by simp only [OZ]; exact ⟨by go_simp, by go_simp, by go_simp, by go_simp, by go_simp, by go_simp, by go_simp, by go_simp, by go_simp, by go_simp, by go_simp, by go_simp, by go_simp, by go_simp, by simp <;> omega⟩) hw1)
  have hz1 : w.heap.size < w1.heap.size := HOZ.out.2.2.2.2.2.2.2.2.2.2.2.2.2.2
  have hB1 : Below w.heap.size w w1 := g_trans (by repeat (first | (with_reducible exact g_refl) | (with_reducible refine g_drewN ?_ _) | (with_reducible refine g_alloc ?_ _))) hw1
  clear hw1
  obtain ⟨o0, o1, o2, o3, o4, o5, o6, u0, u1, u2, u3, u4, u5, u6, u7⟩ := HOZ.out
  cases ex
  · go_wp2
    (try simp only [Exit.inBlock, Exit.then])
    refine bodyPost_ret (v := .tuple #[.agg #[.string ⟨#[]⟩, .string ⟨#[]⟩, .string ⟨#[]⟩, .string ⟨#[]⟩, .string ⟨#[]⟩, .string ⟨#[]⟩, .bool false], .int .i64 n]) ?_ rfl ?_
    · simp [results, Tryz.results43, go_sem, *]
    · refine ⟨by rw [HK.out]; rfl, ?_⟩
      repeat (first | (with_reducible refine g_alloc ?_ _) | (with_reducible refine g_drewN ?_ _) | (with_reducible refine g_set ?_ (Nat.le_refl _) _) | (with_reducible refine g_set ?_ (show w.heap.size ≤ w1.heap.size by omega) _))
      with_reducible exact hB1
  · go_wp2
    (try simp only [Exit.inBlock, Exit.then])
    refine bodyPost_ret (v := .tuple #[.agg #[.string ⟨#[]⟩, .string ⟨#[]⟩, .string ⟨#[]⟩, .string ⟨#[]⟩, .string ⟨#[]⟩, .string ⟨#[]⟩, .bool false], .int .i64 n]) ?_ rfl ?_
    · simp [results, Tryz.results43, go_sem, *]
    · refine ⟨by rw [HK.out]; rfl, ?_⟩
      repeat (first | (with_reducible refine g_alloc ?_ _) | (with_reducible refine g_drewN ?_ _) | (with_reducible refine g_set ?_ (Nat.le_refl _) _) | (with_reducible refine g_set ?_ (show w.heap.size ≤ w1.heap.size by omega) _))
      with_reducible exact hB1

set_option maxRecDepth 20000 in
set_option maxHeartbeats 2000000 in
theorem par_plain (s x r : ByteArray) (ex : Bool) (a b c : ByteArray) (w : World) (hs : s.size ≤ maxLen) (hx : x.size ≤ maxLen) (_hr : r.size ≤ maxLen) (h1 : cutB s 64 = (x, r, ex)) (hb : decide (0 ≤ Lib.indexByte r.data.toList 64) = false) (hg : gpar x = (a, b, c, 0)) (hex : ex = false) (hk : fpar s = (⟨a, b, c, ⟨#[]⟩, ⟨#[]⟩, ⟨#[]⟩, false⟩, 0)) :
    Calls Tryz.prog 43 #[.string s] w (FParRet s w) := by
  subst hex
  have HK := hid hk; clear hk
  have HB := hid hb; clear hb
  have HG := hid hg; clear hg
  have H1 := hid h1; clear h1
  go_enter Tryz.func43, Tryz.ntmps43
  go_wp2_with fail
  refine (cut_v s x r 64 _ _ hs H1.out).mono ?_
  rintro e0 w' ⟨rfl, d1, rfl⟩
  go_wp2_with fail
  refine (has r 64 false _ HB.out).mono ?_
  rintro e0 w' ⟨rfl, rfl⟩
  go_wp2_with fail
  refine (parseG_v x a b c 0 _ hx HG.out).mono ?_
  rintro e0 w1 ⟨rfl, hw1⟩
  have HOZ : Hid (OZ w1 w.heap.size) := hid (OZ.keep (by simp only [OZ]; exact ⟨by go_simp, by go_simp, by go_simp, by go_simp, by go_simp, by go_simp, by go_simp, by go_simp, by go_simp, by go_simp, by go_simp, by go_simp, by go_simp, by go_simp, by simp <;> omega⟩) hw1)
  have hz1 : w.heap.size < w1.heap.size := HOZ.out.2.2.2.2.2.2.2.2.2.2.2.2.2.2
  have hB1 : Below w.heap.size w w1 := g_trans (by repeat (first | (with_reducible exact g_refl) | (with_reducible refine g_drewN ?_ _) | (with_reducible refine g_alloc ?_ _))) hw1
  clear hw1
  obtain ⟨o0, o1, o2, o3, o4, o5, o6, u0, u1, u2, u3, u4, u5, u6, u7⟩ := HOZ.out
  go_wp2
  (try simp only [Exit.inBlock, Exit.then])
  refine bodyPost_ret (v := .tuple #[.agg #[.string a, .string b, .string c, .string ⟨#[]⟩, .string ⟨#[]⟩, .string ⟨#[]⟩, .bool false], .int .i64 0]) ?_ rfl ?_
  · simp [results, Tryz.results43, go_sem, *]
  · refine ⟨by rw [HK.out]; rfl, ?_⟩
    repeat (first | (with_reducible refine g_alloc ?_ _) | (with_reducible refine g_drewN ?_ _) | (with_reducible refine g_set ?_ (Nat.le_refl _) _) | (with_reducible refine g_set ?_ (show w.heap.size ≤ w1.heap.size by omega) _))
    with_reducible exact hB1

set_option maxRecDepth 20000 in
set_option maxHeartbeats 2000000 in
theorem par_serr (s x r : ByteArray) (ex : Bool) (a b c d e f : ByteArray) (n : Int) (w : World) (hs : s.size ≤ maxLen) (hx : x.size ≤ maxLen) (hr : r.size ≤ maxLen) (h1 : cutB s 64 = (x, r, ex)) (hb : decide (0 ≤ Lib.indexByte r.data.toList 64) = false) (hg : gpar x = (a, b, c, 0)) (hex : ex = true) (hu : parseF r 0 1 = (d, e, f, n)) (hn : ¬ n = 0) (hk : fpar s = (zF, n)) :
    Calls Tryz.prog 43 #[.string s] w (FParRet s w) := by
  subst hex
  have HK := hid hk; clear hk
  have HU := hid hu; clear hu
  have HB := hid hb; clear hb
  have HG := hid hg; clear hg
  have H1 := hid h1; clear h1
  go_enter Tryz.func43, Tryz.ntmps43
  go_wp2_with fail
  refine (cut_v s x r 64 _ _ hs H1.out).mono ?_
  rintro e0 w' ⟨rfl, d1, rfl⟩
  go_wp2_with fail
  refine (has r 64 false _ HB.out).mono ?_
  rintro e0 w' ⟨rfl, rfl⟩
  go_wp2_with fail
  refine (parseG_v x a b c 0 _ hx HG.out).mono ?_
  rintro e0 w1 ⟨rfl, hw1⟩
  have HOZ : Hid (OZ w1 w.heap.size) := hid (OZ.keep (by simp only [OZ]; exact ⟨by go_simp, by go_simp, by go_simp, by go_simp, by go_simp, by go_simp, by go_simp, by go_simp, by go_simp, by go_simp, by go_simp, by go_simp, by go_simp, by go_simp, by simp <;> omega⟩) hw1)
  have hz1 : w.heap.size < w1.heap.size := HOZ.out.2.2.2.2.2.2.2.2.2.2.2.2.2.2
  have hB1 : Below w.heap.size w w1 := g_trans (by repeat (first | (with_reducible exact g_refl) | (with_reducible refine g_drewN ?_ _) | (with_reducible refine g_alloc ?_ _))) hw1
  clear hw1
  go_wp2_with fail
  refine (parseSubject_v r d e f n _ hr HU.out).mono ?_
  rintro e0 w2 ⟨rfl, hw2⟩
  have own := own_cells hw2 w1.heap.size (by simp)
  have xc0 : w2.cell? ⟨w1.heap.size, 0, none⟩ = some (.string a) := (own 0).1.trans (by go_simp)
  have xf0 : w2.frozen? ⟨w1.heap.size, 0, none⟩ = false := (own 0).2.trans (by go_simp)
  have xc1 : w2.cell? ⟨w1.heap.size, 1, none⟩ = some (.string b) := (own 1).1.trans (by go_simp)
  have xf1 : w2.frozen? ⟨w1.heap.size, 1, none⟩ = false := (own 1).2.trans (by go_simp)
  have xc2 : w2.cell? ⟨w1.heap.size, 2, none⟩ = some (.string c) := (own 2).1.trans (by go_simp)
  have xf2 : w2.frozen? ⟨w1.heap.size, 2, none⟩ = false := (own 2).2.trans (by go_simp)
  have xc3 : w2.cell? ⟨w1.heap.size, 3, none⟩ = some (.string ⟨#[]⟩) := (own 3).1.trans (by go_simp)
  have xf3 : w2.frozen? ⟨w1.heap.size, 3, none⟩ = false := (own 3).2.trans (by go_simp)
  have xc4 : w2.cell? ⟨w1.heap.size, 4, none⟩ = some (.string ⟨#[]⟩) := (own 4).1.trans (by go_simp)
  have xf4 : w2.frozen? ⟨w1.heap.size, 4, none⟩ = false := (own 4).2.trans (by go_simp)
  have xc5 : w2.cell? ⟨w1.heap.size, 5, none⟩ = some (.string ⟨#[]⟩) := (own 5).1.trans (by go_simp)
  have xf5 : w2.frozen? ⟨w1.heap.size, 5, none⟩ = false := (own 5).2.trans (by go_simp)
  have xc6 : w2.cell? ⟨w1.heap.size, 6, none⟩ = some (.bool true) := (own 6).1.trans (by go_simp)
  have xf6 : w2.frozen? ⟨w1.heap.size, 6, none⟩ = false := (own 6).2.trans (by go_simp)
  clear own
  have HOZ2 : Hid (OZ w2 w.heap.size) := hid (OZ.keep (by first | exact OZ.keep HOZ.out (g_alloc g_refl _) | exact OZ.set (OZ.keep HOZ.out (g_alloc g_refl _)) (by omega) | exact OZ.keep (OZ.set HOZ.out (by omega)) (g_alloc g_refl _)) hw2)
  have hB2 : Below w.heap.size w w2 := g_trans (by repeat (first | (with_reducible exact hB1) | (with_reducible refine g_alloc ?_ _) | (with_reducible refine g_set ?_ (show w.heap.size ≤ w1.heap.size by omega) _))) hw2
  have hz2 : w1.heap.size < w2.heap.size := by have := hw2.size; simp at this; omega
  clear hw2 hB1
  obtain ⟨o0, o1, o2, o3, o4, o5, o6, u0, u1, u2, u3, u4, u5, u6, u7⟩ := HOZ2.out
  go_wp2
  (try simp only [Exit.inBlock, Exit.then])
  refine bodyPost_ret (v := .tuple #[.agg #[.string ⟨#[]⟩, .string ⟨#[]⟩, .string ⟨#[]⟩, .string ⟨#[]⟩, .string ⟨#[]⟩, .string ⟨#[]⟩, .bool false], .int .i64 n]) ?_ rfl ?_
  · simp [results, Tryz.results43, go_sem, *]
  · refine ⟨by rw [HK.out]; rfl, ?_⟩
    repeat (first | (with_reducible refine g_alloc ?_ _) | (with_reducible refine g_drewN ?_ _) | (with_reducible refine g_set ?_ (Nat.le_refl _) _) | (with_reducible refine g_set ?_ (show w.heap.size ≤ w1.heap.size by omega) _))
    with_reducible exact hB2

set_option maxRecDepth 20000 in
set_option maxHeartbeats 2000000 in
theorem par_sub (s x r : ByteArray) (ex : Bool) (a b c d e f : ByteArray) (w : World) (hs : s.size ≤ maxLen) (hx : x.size ≤ maxLen) (hr : r.size ≤ maxLen) (h1 : cutB s 64 = (x, r, ex)) (hb : decide (0 ≤ Lib.indexByte r.data.toList 64) = false) (hg : gpar x = (a, b, c, 0)) (hex : ex = true) (hu : parseF r 0 1 = (d, e, f, 0)) (hk : fpar s = (⟨a, b, c, d, e, f, true⟩, 0)) :
    Calls Tryz.prog 43 #[.string s] w (FParRet s w) := by
  subst hex
  have HK := hid hk; clear hk
  have HU := hid hu; clear hu
  have HB := hid hb; clear hb
  have HG := hid hg; clear hg
  have H1 := hid h1; clear h1
  go_enter Tryz.func43, Tryz.ntmps43
  go_wp2_with fail
  refine (cut_v s x r 64 _ _ hs H1.out).mono ?_
  rintro e0 w' ⟨rfl, d1, rfl⟩
  go_wp2_with fail
  refine (has r 64 false _ HB.out).mono ?_
  rintro e0 w' ⟨rfl, rfl⟩
  go_wp2_with fail
  refine (parseG_v x a b c 0 _ hx HG.out).mono ?_
  rintro e0 w1 ⟨rfl, hw1⟩
  have HOZ : Hid (OZ w1 w.heap.size) := hid (OZ.keep (by simp only [OZ]; exact ⟨by go_simp, by go_simp, by go_simp, by go_simp, by go_simp, by go_simp, by go_simp, by go_simp, by go_simp, by go_simp, by go_simp, by go_simp, by go_simp, by go_simp, by simp <;> omega⟩) hw1)
  have hz1 : w.heap.size < w1.heap.size := HOZ.out.2.2.2.2.2.2.2.2.2.2.2.2.2.2
  have hB1 : Below w.heap.size w w1 := g_trans (by repeat (first | (with_reducible exact g_refl) | (with_reducible refine g_drewN ?_ _) | (with_reducible refine g_alloc ?_ _))) hw1
  clear hw1
  go_wp2_with fail
  refine (parseSubject_v r d e f 0 _ hr HU.out).mono ?_
  rintro e0 w2 ⟨rfl, hw2⟩
  have own := own_cells hw2 w1.heap.size (by simp)
  have xc0 : w2.cell? ⟨w1.heap.size, 0, none⟩ = some (.string a) := (own 0).1.trans (by go_simp)
  have xf0 : w2.frozen? ⟨w1.heap.size, 0, none⟩ = false := (own 0).2.trans (by go_simp)
  have xc1 : w2.cell? ⟨w1.heap.size, 1, none⟩ = some (.string b) := (own 1).1.trans (by go_simp)
  have xf1 : w2.frozen? ⟨w1.heap.size, 1, none⟩ = false := (own 1).2.trans (by go_simp)
  have xc2 : w2.cell? ⟨w1.heap.size, 2, none⟩ = some (.string c) := (own 2).1.trans (by go_simp)
  have xf2 : w2.frozen? ⟨w1.heap.size, 2, none⟩ = false := (own 2).2.trans (by go_simp)
  have xc3 : w2.cell? ⟨w1.heap.size, 3, none⟩ = some (.string ⟨#[]⟩) := (own 3).1.trans (by go_simp)
  have xf3 : w2.frozen? ⟨w1.heap.size, 3, none⟩ = false := (own 3).2.trans (by go_simp)
  have xc4 : w2.cell? ⟨w1.heap.size, 4, none⟩ = some (.string ⟨#[]⟩) := (own 4).1.trans (by go_simp)
  have xf4 : w2.frozen? ⟨w1.heap.size, 4, none⟩ = false := (own 4).2.trans (by go_simp)
  have xc5 : w2.cell? ⟨w1.heap.size, 5, none⟩ = some (.string ⟨#[]⟩) := (own 5).1.trans (by go_simp)
  have xf5 : w2.frozen? ⟨w1.heap.size, 5, none⟩ = false := (own 5).2.trans (by go_simp)
  have xc6 : w2.cell? ⟨w1.heap.size, 6, none⟩ = some (.bool true) := (own 6).1.trans (by go_simp)
  have xf6 : w2.frozen? ⟨w1.heap.size, 6, none⟩ = false := (own 6).2.trans (by go_simp)
  clear own
  have HOZ2 : Hid (OZ w2 w.heap.size) := hid (OZ.keep (by first | exact OZ.keep HOZ.out (g_alloc g_refl _) | exact OZ.set (OZ.keep HOZ.out (g_alloc g_refl _)) (by omega) | exact OZ.keep (OZ.set HOZ.out (by omega)) (g_alloc g_refl _)) hw2)
  have hB2 : Below w.heap.size w w2 := g_trans (by repeat (first | (with_reducible exact hB1) | (with_reducible refine g_alloc ?_ _) | (with_reducible refine g_set ?_ (show w.heap.size ≤ w1.heap.size by omega) _))) hw2
  have hz2 : w1.heap.size < w2.heap.size := by have := hw2.size; simp at this; omega
  clear hw2 hB1
  obtain ⟨o0, o1, o2, o3, o4, o5, o6, u0, u1, u2, u3, u4, u5, u6, u7⟩ := HOZ2.out
  go_wp2
  (try simp only [Exit.inBlock, Exit.then])
  refine bodyPost_ret (v := .tuple #[.agg #[.string a, .string b, .string c, .string d, .string e, .string f, .bool true], .int .i64 0]) ?_ rfl ?_
  · simp [results, Tryz.results43, go_sem, *]
  · refine ⟨by rw [HK.out]; rfl, ?_⟩
    repeat (first | (with_reducible refine g_alloc ?_ _) | (with_reducible refine g_drewN ?_ _) | (with_reducible refine g_set ?_ (Nat.le_refl _) _) | (with_reducible refine g_set ?_ (show w.heap.size ≤ w1.heap.size by omega) _))
    with_reducible exact hB2

theorem fparse (s : ByteArray) (w : World) (hs : s.size ≤ maxLen) : Calls Tryz.prog 43 #[.string s] w (FParRet s w) := by
  by_cases h0 : cn s 64 = 0
  · have h1 : cutB s 64 = (s, ByteArray.empty, false) := by rw [cutB_ix, if_pos h0]
    have hb : decide (0 ≤ Lib.indexByte (ByteArray.empty).data.toList 64) = false := by decide
    have hgo : gof s = s := by unfold gof; rw [if_pos h0]
    obtain ⟨⟨a, b, c, n⟩, hg⟩ : ∃ t, gpar s = t := ⟨_, rfl⟩
    by_cases hn : n = 0
    · subst hn
      exact par_plain s s ByteArray.empty false a b c w hs hs (Nat.zero_le _) h1 hb hg rfl (fpar_plain h0 (by rw [hgo]; exact hg))
    · exact par_gerr s s ByteArray.empty false a b c n w hs hs (Nat.zero_le _) h1 hb hg hn (fpar_gerr (by omega) (by rw [hgo]; exact hg) hn)
  · have h1 : cutB s 64 = (s.extract 0 (ix s 64), s.extract (ix s 64 + 1) s.size, true) := by rw [cutB_ix, if_neg h0]
    have hgo : gof s = s.extract 0 (ix s 64) := by unfold gof; rw [if_neg h0]
    have hx : (s.extract 0 (ix s 64)).size ≤ maxLen := by unfold maxLen at *; simp [ByteArray.size_extract]; omega
    have hr : (s.extract (ix s 64 + 1) s.size).size ≤ maxLen := by unfold maxLen at *; simp [ByteArray.size_extract]; omega
    have hcu := cut_at64 s
    rw [h1] at hcu
    simp only [Bool.true_eq_false, false_or] at hcu
    by_cases h2 : cn s 64 = 1
    · have hb : decide (0 ≤ Lib.indexByte (s.extract (ix s 64 + 1) s.size).data.toList 64) = false := decide_eq_false fun h => hcu.1 h h2
      obtain ⟨⟨a, b, c, n⟩, hg⟩ : ∃ t, gpar (s.extract 0 (ix s 64)) = t := ⟨_, rfl⟩
      by_cases hn : n = 0
      · subst hn
        obtain ⟨⟨d, e, f, m⟩, hu⟩ : ∃ t, parseF (s.extract (ix s 64 + 1) s.size) 0 1 = t := ⟨_, rfl⟩
        by_cases hm : m = 0
        · subst hm
          exact par_sub s _ _ true a b c d e f w hs hx hr h1 hb hg rfl hu (fpar_sub h2 (by rw [hgo]; exact hg) hu)
        · exact par_serr s _ _ true a b c d e f m w hs hx hr h1 hb hg rfl hu hm (fpar_serr h2 (by rw [hgo]; exact hg) hu hm)
      · exact par_gerr s _ _ true a b c n w hs hx hr h1 hb hg hn (fpar_gerr (by omega) (by rw [hgo]; exact hg) hn)
    · exact par_many s _ _ true w hs hx hr h1 (decide_eq_true (hcu.2 h2)) (fpar_many (by omega))
end Go.Proofs.YtgfgfggoofjeeaaGreat
namespace Go.Proofs.YtgfgfggoofjeeaaGreat.DT
open Go.RowKit Go.Deep

def t0 : Tup := ⟨⟨#[100, 111, 99]⟩, ⟨#[97]⟩, ⟨#[118, 105, 101, 119, 101, 114]⟩, ⟨#[117, 115, 101, 114]⟩, ⟨#[120]⟩, ⟨#[]⟩⟩
theorem lr0 : rtup ⟨#[100, 111, 99, 58, 97, 35, 118, 105, 101, 119, 101, 114, 64, 117, 115, 101, 114, 58, 120]⟩ = (t0, 0) := by decide +kernel
def t1 : Tup := ⟨⟨#[100, 111, 99]⟩, ⟨#[97]⟩, ⟨#[118, 105, 101, 119, 101, 114]⟩, ⟨#[103, 114, 111, 117, 112]⟩, ⟨#[103]⟩, ⟨#[109, 101, 109, 98, 101, 114]⟩⟩
theorem lr1 : rtup ⟨#[100, 111, 99, 58, 97, 35, 118, 105, 101, 119, 101, 114, 64, 103, 114, 111, 117, 112, 58, 103, 35, 109, 101, 109, 98, 101, 114]⟩ = (t1, 0) := by decide +kernel
def t2 : Tup := ⟨⟨#[100, 111, 99]⟩, ⟨#[98]⟩, ⟨#[118, 105, 101, 119, 101, 114]⟩, ⟨#[117, 115, 101, 114]⟩, ⟨#[120]⟩, ⟨#[]⟩⟩
theorem lr2 : rtup ⟨#[100, 111, 99, 58, 98, 35, 118, 105, 101, 119, 101, 114, 64, 117, 115, 101, 114, 58, 120]⟩ = (t2, 0) := by decide +kernel
def smallL : List Tup := [t0, t1, t2]
theorem rtparse_x (s : ByteArray) (x : Tup) (w : World) (hs : s.size ≤ 1000) (h : rtup s = (x, 0)) :
    Calls Tryz.prog 64 #[.string s] w fun r w' => r = .returned (.tuple #[.agg #[.string x.a, .string x.b, .string x.c, .string x.d, .string x.e, .string x.f], .int .i64 0]) ∧ Below w.heap.size w w' := by
  have q := rtparse s w (by unfold maxLen; omega); unfold RTupRet at q; rw [h] at q; exact q.mono fun _ _ h => ⟨h.1, h.2⟩
theorem new_cells1 (w : World) (o : Obj) (x : Tup) (t : TypeId) : ∀ c v, (enc x)[c]? = some v → ((w.alloc o).alloc (.cells #[.string x.a, .string x.b, .string x.c, .string x.d, .string x.e, .string x.f] t)).cell? ⟨w.heap.size + 1, c, none⟩ = some v := fun c v h => by
  have q := new_cells (w.alloc o) x t c v h
  rwa [show (w.alloc o).heap.size = w.heap.size + 1 by simp] at q
set_option maxRecDepth 20000 in
set_option maxHeartbeats 2000000 in
theorem small_any (w : World) : Calls Tryz.prog 42 #[] w fun e w' => ∃ v, e = .returned v ∧ Own w' w.heap.size v smallL ∧ Below w.heap.size w w' := by
  go_enter Tryz.func42, Tryz.ntmps42
  go_wp2
  go_loopw [1, 3] (fun v i wr => ∃ k : Nat, k ≤ 3 ∧ i = .int .i64 k ∧ Own wr (w.heap.size + 1) v (smallL.take k) ∧ Below (w.alloc (.cells #[.string ⟨#[100, 111, 99, 58, 97, 35, 118, 105, 101, 119, 101, 114, 64, 117, 115, 101, 114, 58, 120]⟩, .string ⟨#[100, 111, 99, 58, 97, 35, 118, 105, 101, 119, 101, 114, 64, 103, 114, 111, 117, 112, 58, 103, 35, 109, 101, 109, 98, 101, 114]⟩, .string ⟨#[100, 111, 99, 58, 98, 35, 118, 105, 101, 119, 101, 114, 64, 117, 115, 101, 114, 58, 120]⟩] 9)).heap.size (w.alloc (.cells #[.string ⟨#[100, 111, 99, 58, 97, 35, 118, 105, 101, 119, 101, 114, 64, 117, 115, 101, 114, 58, 120]⟩, .string ⟨#[100, 111, 99, 58, 97, 35, 118, 105, 101, 119, 101, 114, 64, 103, 114, 111, 117, 112, 58, 103, 35, 109, 101, 109, 98, 101, 114]⟩, .string ⟨#[100, 111, 99, 58, 98, 35, 118, 105, 101, 119, 101, 114, 64, 117, 115, 101, 114, 58, 120]⟩] 9)) wr) (fun _ i _ => 3 - (intOf i).toNat)
  case atStart => exact ⟨0, by omega, rfl, Own.nil _ _, g_refl⟩
  case round =>
    obtain ⟨k, hk, rfl, hown, hw⟩ := hrel
    have c0 : wr.cell? ⟨w.heap.size, 0, none⟩ = some (.string ⟨#[100, 111, 99, 58, 97, 35, 118, 105, 101, 119, 101, 114, 64, 117, 115, 101, 114, 58, 120]⟩) := (own_cells hw _ (by simp) _).1.trans (by go_simp)
    have c1 : wr.cell? ⟨w.heap.size, 1, none⟩ = some (.string ⟨#[100, 111, 99, 58, 97, 35, 118, 105, 101, 119, 101, 114, 64, 103, 114, 111, 117, 112, 58, 103, 35, 109, 101, 109, 98, 101, 114]⟩) := (own_cells hw _ (by simp) _).1.trans (by go_simp)
    have c2 : wr.cell? ⟨w.heap.size, 2, none⟩ = some (.string ⟨#[100, 111, 99, 58, 98, 35, 118, 105, 101, 119, 101, 114, 64, 117, 115, 101, 114, 58, 120]⟩) := (own_cells hw _ (by simp) _).1.trans (by go_simp)
    have HO := hid hown; clear hown
    have hzr : w.heap.size + 1 ≤ wr.heap.size := by have := hw.size; simpa using this
    by_cases hlt : k < 3
    · rcases (show k = 0 ∨ k = 1 ∨ k = 2 by omega) with rfl | rfl | rfl <;> clear hk hlt
      · go_wp2_with fail
        refine (rtparse_x ⟨#[100, 111, 99, 58, 97, 35, 118, 105, 101, 119, 101, 114, 64, 117, 115, 101, 114, 58, 120]⟩ t0 _ (by decide) lr0).mono ?_
        rintro r w1 ⟨rfl, hw1⟩
        simp only [t0]
        have hO1 := HO.out.below hw1
        have hz1 := hw1.size
        clear c0 c1 c2
        go_wp2_with (at_builtin; refine wp_app _ _ rfl rfl (w.heap.size + 1) _ (smallL.take 0) (w1.heap.size + 1) 1 t0 rfl rfl ((hO1.below (g_alloc g_refl _)).below (g_alloc g_refl _)) (new_cells1 w1 _ t0 _) (by decide) (by simp; omega) ?_)
        intro v5 w5 hown5 hg5 hd5
        have hsz := (g_trans hw hw1).size
        have hw5 : Below (w.alloc (.cells #[.string ⟨#[100, 111, 99, 58, 97, 35, 118, 105, 101, 119, 101, 114, 64, 117, 115, 101, 114, 58, 120]⟩, .string ⟨#[100, 111, 99, 58, 97, 35, 118, 105, 101, 119, 101, 114, 64, 103, 114, 111, 117, 112, 58, 103, 35, 109, 101, 109, 98, 101, 114]⟩, .string ⟨#[100, 111, 99, 58, 98, 35, 118, 105, 101, 119, 101, 114, 64, 117, 115, 101, 114, 58, 120]⟩] 9)).heap.size (w.alloc (.cells #[.string ⟨#[100, 111, 99, 58, 97, 35, 118, 105, 101, 119, 101, 114, 64, 117, 115, 101, 114, 58, 120]⟩, .string ⟨#[100, 111, 99, 58, 97, 35, 118, 105, 101, 119, 101, 114, 64, 103, 114, 111, 117, 112, 58, 103, 35, 109, 101, 109, 98, 101, 114]⟩, .string ⟨#[100, 111, 99, 58, 98, 35, 118, 105, 101, 119, 101, 114, 64, 117, 115, 101, 114, 58, 120]⟩] 9)) w5 := by
          refine Below.grown (g_alloc (g_alloc (g_trans hw hw1) _) _) hg5 ?_ fun g hg => ?_
          · simp at hsz ⊢; omega
          · have := (hO1.lt g hg).1; simpa using this
        go_wp2
        go_roundw
        case rel => exact ⟨0+1, by omega, by go_num, hown5, hw5⟩
        case measure => simp [intOf]
      · go_wp2_with fail
        refine (rtparse_x ⟨#[100, 111, 99, 58, 97, 35, 118, 105, 101, 119, 101, 114, 64, 103, 114, 111, 117, 112, 58, 103, 35, 109, 101, 109, 98, 101, 114]⟩ t1 _ (by decide) lr1).mono ?_
        rintro r w1 ⟨rfl, hw1⟩
        simp only [t1]
        have hO1 := HO.out.below hw1
        have hz1 := hw1.size
        clear c0 c1 c2
        go_wp2_with (at_builtin; refine wp_app _ _ rfl rfl (w.heap.size + 1) _ (smallL.take 1) (w1.heap.size + 1) 1 t1 rfl rfl ((hO1.below (g_alloc g_refl _)).below (g_alloc g_refl _)) (new_cells1 w1 _ t1 _) (by decide) (by simp; omega) ?_)
        intro v5 w5 hown5 hg5 hd5
        have hsz := (g_trans hw hw1).size
        have hw5 : Below (w.alloc (.cells #[.string ⟨#[100, 111, 99, 58, 97, 35, 118, 105, 101, 119, 101, 114, 64, 117, 115, 101, 114, 58, 120]⟩, .string ⟨#[100, 111, 99, 58, 97, 35, 118, 105, 101, 119, 101, 114, 64, 103, 114, 111, 117, 112, 58, 103, 35, 109, 101, 109, 98, 101, 114]⟩, .string ⟨#[100, 111, 99, 58, 98, 35, 118, 105, 101, 119, 101, 114, 64, 117, 115, 101, 114, 58, 120]⟩] 9)).heap.size (w.alloc (.cells #[.string ⟨#[100, 111, 99, 58, 97, 35, 118, 105, 101, 119, 101, 114, 64, 117, 115, 101, 114, 58, 120]⟩, .string ⟨#[100, 111, 99, 58, 97, 35, 118, 105, 101, 119, 101, 114, 64, 103, 114, 111, 117, 112, 58, 103, 35, 109, 101, 109, 98, 101, 114]⟩, .string ⟨#[100, 111, 99, 58, 98, 35, 118, 105, 101, 119, 101, 114, 64, 117, 115, 101, 114, 58, 120]⟩] 9)) w5 := by
          refine Below.grown (g_alloc (g_alloc (g_trans hw hw1) _) _) hg5 ?_ fun g hg => ?_
          · simp at hsz ⊢; omega
          · have := (hO1.lt g hg).1; simpa using this
        go_wp2
        go_roundw
        case rel => exact ⟨1+1, by omega, by go_num, hown5, hw5⟩
        case measure => simp [intOf]
      · go_wp2_with fail
        refine (rtparse_x ⟨#[100, 111, 99, 58, 98, 35, 118, 105, 101, 119, 101, 114, 64, 117, 115, 101, 114, 58, 120]⟩ t2 _ (by decide) lr2).mono ?_
        rintro r w1 ⟨rfl, hw1⟩
        simp only [t2]
        have hO1 := HO.out.below hw1
        have hz1 := hw1.size
        clear c0 c1 c2
        go_wp2_with (at_builtin; refine wp_app _ _ rfl rfl (w.heap.size + 1) _ (smallL.take 2) (w1.heap.size + 1) 1 t2 rfl rfl ((hO1.below (g_alloc g_refl _)).below (g_alloc g_refl _)) (new_cells1 w1 _ t2 _) (by decide) (by simp; omega) ?_)
        intro v5 w5 hown5 hg5 hd5
        have hsz := (g_trans hw hw1).size
        have hw5 : Below (w.alloc (.cells #[.string ⟨#[100, 111, 99, 58, 97, 35, 118, 105, 101, 119, 101, 114, 64, 117, 115, 101, 114, 58, 120]⟩, .string ⟨#[100, 111, 99, 58, 97, 35, 118, 105, 101, 119, 101, 114, 64, 103, 114, 111, 117, 112, 58, 103, 35, 109, 101, 109, 98, 101, 114]⟩, .string ⟨#[100, 111, 99, 58, 98, 35, 118, 105, 101, 119, 101, 114, 64, 117, 115, 101, 114, 58, 120]⟩] 9)).heap.size (w.alloc (.cells #[.string ⟨#[100, 111, 99, 58, 97, 35, 118, 105, 101, 119, 101, 114, 64, 117, 115, 101, 114, 58, 120]⟩, .string ⟨#[100, 111, 99, 58, 97, 35, 118, 105, 101, 119, 101, 114, 64, 103, 114, 111, 117, 112, 58, 103, 35, 109, 101, 109, 98, 101, 114]⟩, .string ⟨#[100, 111, 99, 58, 98, 35, 118, 105, 101, 119, 101, 114, 64, 117, 115, 101, 114, 58, 120]⟩] 9)) w5 := by
          refine Below.grown (g_alloc (g_alloc (g_trans hw hw1) _) _) hg5 ?_ fun g hg => ?_
          · simp at hsz ⊢; omega
          · have := (hO1.lt g hg).1; simpa using this
        go_wp2
        go_roundw
        case rel => exact ⟨2+1, by omega, by go_num, hown5, hw5⟩
        case measure => simp [intOf]
    · obtain rfl : k = 3 := by omega
      have hO := HO.out
      go_wp2
      go_ret
      exact ⟨_, rfl, hO.mono (Nat.le_succ _), g_trans (g_alloc g_refl _) hw⟩
/-- the set of them, in order; and without the last -/
def sortL : List Tup := [t1, t0, t2]
theorem of_small : ofF [] smallL = (sortL, 0) := by decide +kernel
theorem wth_small : wth sortL t2 true = ([t1, t0], 0) := by decide +kernel
theorem fit0 : ∀ t ∈ smallL, Fits t := fun t h => ok_fits (by
  have : ∀ t ∈ smallL, okT t = true := by decide +kernel
  exact this t h)
theorem ok_sort : ∀ t ∈ sortL, okT t = true := by decide +kernel
theorem fX_par : fpar ⟨#[100, 111, 99, 58, 42, 35, 42]⟩ = (⟨⟨#[100, 111, 99]⟩, ⟨#[]⟩, ⟨#[]⟩, ⟨#[]⟩, ⟨#[]⟩, ⟨#[]⟩, false⟩, 0) := by decide +kernel
theorem fparse_x (s : ByteArray) (a b c d e f : ByteArray) (x : Bool) (n : Int) (w : World) (hs : s.size ≤ maxLen) (h : fpar s = (⟨a, b, c, d, e, f, x⟩, n)) :
    Calls Tryz.prog 43 #[.string s] w fun r w' => r = .returned (.tuple #[.agg #[.string a, .string b, .string c, .string d, .string e, .string f, .bool x], .int .i64 n]) ∧ Below w.heap.size w w' := by
  have q := fparse s w hs; unfold FParRet at q; rw [h] at q; exact q
set_option maxRecDepth 20000 in
set_option maxHeartbeats 2000000 in
theorem of_nil (w : World) : Calls Tryz.prog 6 #[.slice none 0 0] w fun e w' => e = .returned (.tuple #[.agg #[.nilFunc, .pointer none], .int .i64 0]) ∧ Below w.heap.size w w' := by
  have hb0 : Below w.heap.size w ((w.alloc (.cells #[.nilFunc, .pointer none] 38 (0, 0))).alloc (.cells #[.nilFunc, .pointer none] 38 (0, 0))) := g_alloc (g_alloc g_refl _) _
  have HB0 := hid hb0
  clear hb0
  go_enter Tryz.func6, Tryz.ntmps6
  go_wp2
  go_loopw [11] (fun i wr => i = .int .i64 0 ∧ wr = (w.alloc (.cells #[.nilFunc, .pointer none] 38 (0, 0))).alloc (.cells #[.nilFunc, .pointer none] 38 (0, 0))) (fun _ _ => 0)
  case atStart => exact ⟨rfl, rfl⟩
  case round =>
    obtain ⟨rfl, rfl⟩ := hrel
    go_wp2
    refine bodyPost_ret (v := .tuple #[.agg #[.nilFunc, .pointer none], .int .i64 0]) ?_ rfl ?_
    · simp [results, Tryz.results6, go_sem]
    · exact ⟨rfl, HB0.out⟩
/-- the cells of the three -/
def SC (w : World) (g : Nat) : Prop := w.cell? ⟨g, 0, none⟩ = some (.string ⟨#[100, 111, 99]⟩) ∧ w.cell? ⟨g, 1, none⟩ = some (.string ⟨#[97]⟩) ∧ w.cell? ⟨g, 2, none⟩ = some (.string ⟨#[118, 105, 101, 119, 101, 114]⟩) ∧ w.cell? ⟨g, 3, none⟩ = some (.string ⟨#[117, 115, 101, 114]⟩) ∧ w.cell? ⟨g, 4, none⟩ = some (.string ⟨#[120]⟩) ∧ w.cell? ⟨g, 5, none⟩ = some (.string ⟨#[]⟩) ∧ w.cell? ⟨g, 6, none⟩ = some (.string ⟨#[100, 111, 99]⟩) ∧ w.cell? ⟨g, 7, none⟩ = some (.string ⟨#[97]⟩) ∧ w.cell? ⟨g, 8, none⟩ = some (.string ⟨#[118, 105, 101, 119, 101, 114]⟩) ∧ w.cell? ⟨g, 9, none⟩ = some (.string ⟨#[103, 114, 111, 117, 112]⟩) ∧ w.cell? ⟨g, 10, none⟩ = some (.string ⟨#[103]⟩) ∧ w.cell? ⟨g, 11, none⟩ = some (.string ⟨#[109, 101, 109, 98, 101, 114]⟩) ∧ w.cell? ⟨g, 12, none⟩ = some (.string ⟨#[100, 111, 99]⟩) ∧ w.cell? ⟨g, 13, none⟩ = some (.string ⟨#[98]⟩) ∧ w.cell? ⟨g, 14, none⟩ = some (.string ⟨#[118, 105, 101, 119, 101, 114]⟩) ∧ w.cell? ⟨g, 15, none⟩ = some (.string ⟨#[117, 115, 101, 114]⟩) ∧ w.cell? ⟨g, 16, none⟩ = some (.string ⟨#[120]⟩) ∧ w.cell? ⟨g, 17, none⟩ = some (.string ⟨#[]⟩)
theorem sm_cells {w : World} {g : Nat} (h : Row w (some ⟨g, 0, none⟩) smallL) : SC w g := by
  obtain ⟨b, o, e, hL⟩ := h (by decide)
  injection e with e
  injection e with e1 e2
  subst e1; subst e2
  have c := fun i (hi : i < 3) j v hv => hL.2 i hi j v hv
  exact ⟨c 0 (by decide) 0 _ rfl, c 0 (by decide) 1 _ rfl, c 0 (by decide) 2 _ rfl, c 0 (by decide) 3 _ rfl, c 0 (by decide) 4 _ rfl, c 0 (by decide) 5 _ rfl, c 1 (by decide) 0 _ rfl, c 1 (by decide) 1 _ rfl, c 1 (by decide) 2 _ rfl, c 1 (by decide) 3 _ rfl, c 1 (by decide) 4 _ rfl, c 1 (by decide) 5 _ rfl, c 2 (by decide) 0 _ rfl, c 2 (by decide) 1 _ rfl, c 2 (by decide) 2 _ rfl, c 2 (by decide) 3 _ rfl, c 2 (by decide) 4 _ rfl, c 2 (by decide) 5 _ rfl⟩
theorem keep18 {a b : World} {p0 p1 p2 p3 p4 p5 p6 p7 p8 p9 p10 p11 p12 p13 p14 p15 p16 p17 o0 o1 o2 o3 o4 o5 o6 o7 o8 o9 o10 o11 o12 o13 o14 o15 o16 o17 : Nat} {x0 x1 x2 x3 x4 x5 x6 x7 x8 x9 x10 x11 x12 x13 x14 x15 x16 x17 : Value} (h : Below a.heap.size a b)
    (s : a.cell? ⟨p0, o0, none⟩ = some x0 ∧ a.cell? ⟨p1, o1, none⟩ = some x1 ∧ a.cell? ⟨p2, o2, none⟩ = some x2 ∧ a.cell? ⟨p3, o3, none⟩ = some x3 ∧ a.cell? ⟨p4, o4, none⟩ = some x4 ∧ a.cell? ⟨p5, o5, none⟩ = some x5 ∧ a.cell? ⟨p6, o6, none⟩ = some x6 ∧ a.cell? ⟨p7, o7, none⟩ = some x7 ∧ a.cell? ⟨p8, o8, none⟩ = some x8 ∧ a.cell? ⟨p9, o9, none⟩ = some x9 ∧ a.cell? ⟨p10, o10, none⟩ = some x10 ∧ a.cell? ⟨p11, o11, none⟩ = some x11 ∧ a.cell? ⟨p12, o12, none⟩ = some x12 ∧ a.cell? ⟨p13, o13, none⟩ = some x13 ∧ a.cell? ⟨p14, o14, none⟩ = some x14 ∧ a.cell? ⟨p15, o15, none⟩ = some x15 ∧ a.cell? ⟨p16, o16, none⟩ = some x16 ∧ a.cell? ⟨p17, o17, none⟩ = some x17) :
    b.cell? ⟨p0, o0, none⟩ = some x0 ∧ b.cell? ⟨p1, o1, none⟩ = some x1 ∧ b.cell? ⟨p2, o2, none⟩ = some x2 ∧ b.cell? ⟨p3, o3, none⟩ = some x3 ∧ b.cell? ⟨p4, o4, none⟩ = some x4 ∧ b.cell? ⟨p5, o5, none⟩ = some x5 ∧ b.cell? ⟨p6, o6, none⟩ = some x6 ∧ b.cell? ⟨p7, o7, none⟩ = some x7 ∧ b.cell? ⟨p8, o8, none⟩ = some x8 ∧ b.cell? ⟨p9, o9, none⟩ = some x9 ∧ b.cell? ⟨p10, o10, none⟩ = some x10 ∧ b.cell? ⟨p11, o11, none⟩ = some x11 ∧ b.cell? ⟨p12, o12, none⟩ = some x12 ∧ b.cell? ⟨p13, o13, none⟩ = some x13 ∧ b.cell? ⟨p14, o14, none⟩ = some x14 ∧ b.cell? ⟨p15, o15, none⟩ = some x15 ∧ b.cell? ⟨p16, o16, none⟩ = some x16 ∧ b.cell? ⟨p17, o17, none⟩ = some x17 :=
  ⟨keep1 h s.1, keep1 h s.2.1, keep1 h s.2.2.1, keep1 h s.2.2.2.1, keep1 h s.2.2.2.2.1, keep1 h s.2.2.2.2.2.1, keep1 h s.2.2.2.2.2.2.1, keep1 h s.2.2.2.2.2.2.2.1, keep1 h s.2.2.2.2.2.2.2.2.1, keep1 h s.2.2.2.2.2.2.2.2.2.1, keep1 h s.2.2.2.2.2.2.2.2.2.2.1, keep1 h s.2.2.2.2.2.2.2.2.2.2.2.1, keep1 h s.2.2.2.2.2.2.2.2.2.2.2.2.1, keep1 h s.2.2.2.2.2.2.2.2.2.2.2.2.2.1, keep1 h s.2.2.2.2.2.2.2.2.2.2.2.2.2.2.1, keep1 h s.2.2.2.2.2.2.2.2.2.2.2.2.2.2.2.1, keep1 h s.2.2.2.2.2.2.2.2.2.2.2.2.2.2.2.2.1, keep1 h s.2.2.2.2.2.2.2.2.2.2.2.2.2.2.2.2.2⟩
theorem keep27 {a b : World} {p0 p1 p2 p3 p4 p5 p6 p7 p8 p9 p10 p11 p12 p13 p14 p15 p16 p17 p18 p19 p20 p21 p22 p23 p24 p25 p26 o0 o1 o2 o3 o4 o5 o6 o7 o8 o9 o10 o11 o12 o13 o14 o15 o16 o17 o18 o19 o20 o21 o22 o23 o24 o25 o26 : Nat} {x0 x1 x2 x3 x4 x5 x6 x7 x8 x9 x10 x11 x12 x13 x14 x15 x16 x17 x18 x19 x20 x21 x22 x23 x24 x25 x26 : Value} (h : Below a.heap.size a b)
    (s : a.cell? ⟨p0, o0, none⟩ = some x0 ∧ a.cell? ⟨p1, o1, none⟩ = some x1 ∧ a.cell? ⟨p2, o2, none⟩ = some x2 ∧ a.cell? ⟨p3, o3, none⟩ = some x3 ∧ a.cell? ⟨p4, o4, none⟩ = some x4 ∧ a.cell? ⟨p5, o5, none⟩ = some x5 ∧ a.cell? ⟨p6, o6, none⟩ = some x6 ∧ a.cell? ⟨p7, o7, none⟩ = some x7 ∧ a.cell? ⟨p8, o8, none⟩ = some x8 ∧ a.cell? ⟨p9, o9, none⟩ = some x9 ∧ a.cell? ⟨p10, o10, none⟩ = some x10 ∧ a.cell? ⟨p11, o11, none⟩ = some x11 ∧ a.cell? ⟨p12, o12, none⟩ = some x12 ∧ a.cell? ⟨p13, o13, none⟩ = some x13 ∧ a.cell? ⟨p14, o14, none⟩ = some x14 ∧ a.cell? ⟨p15, o15, none⟩ = some x15 ∧ a.cell? ⟨p16, o16, none⟩ = some x16 ∧ a.cell? ⟨p17, o17, none⟩ = some x17 ∧ a.cell? ⟨p18, o18, none⟩ = some x18 ∧ a.cell? ⟨p19, o19, none⟩ = some x19 ∧ a.cell? ⟨p20, o20, none⟩ = some x20 ∧ a.cell? ⟨p21, o21, none⟩ = some x21 ∧ a.cell? ⟨p22, o22, none⟩ = some x22 ∧ a.cell? ⟨p23, o23, none⟩ = some x23 ∧ a.cell? ⟨p24, o24, none⟩ = some x24 ∧ a.cell? ⟨p25, o25, none⟩ = some x25 ∧ a.cell? ⟨p26, o26, none⟩ = some x26) :
    b.cell? ⟨p0, o0, none⟩ = some x0 ∧ b.cell? ⟨p1, o1, none⟩ = some x1 ∧ b.cell? ⟨p2, o2, none⟩ = some x2 ∧ b.cell? ⟨p3, o3, none⟩ = some x3 ∧ b.cell? ⟨p4, o4, none⟩ = some x4 ∧ b.cell? ⟨p5, o5, none⟩ = some x5 ∧ b.cell? ⟨p6, o6, none⟩ = some x6 ∧ b.cell? ⟨p7, o7, none⟩ = some x7 ∧ b.cell? ⟨p8, o8, none⟩ = some x8 ∧ b.cell? ⟨p9, o9, none⟩ = some x9 ∧ b.cell? ⟨p10, o10, none⟩ = some x10 ∧ b.cell? ⟨p11, o11, none⟩ = some x11 ∧ b.cell? ⟨p12, o12, none⟩ = some x12 ∧ b.cell? ⟨p13, o13, none⟩ = some x13 ∧ b.cell? ⟨p14, o14, none⟩ = some x14 ∧ b.cell? ⟨p15, o15, none⟩ = some x15 ∧ b.cell? ⟨p16, o16, none⟩ = some x16 ∧ b.cell? ⟨p17, o17, none⟩ = some x17 ∧ b.cell? ⟨p18, o18, none⟩ = some x18 ∧ b.cell? ⟨p19, o19, none⟩ = some x19 ∧ b.cell? ⟨p20, o20, none⟩ = some x20 ∧ b.cell? ⟨p21, o21, none⟩ = some x21 ∧ b.cell? ⟨p22, o22, none⟩ = some x22 ∧ b.cell? ⟨p23, o23, none⟩ = some x23 ∧ b.cell? ⟨p24, o24, none⟩ = some x24 ∧ b.cell? ⟨p25, o25, none⟩ = some x25 ∧ b.cell? ⟨p26, o26, none⟩ = some x26 :=
  ⟨keep1 h s.1, keep1 h s.2.1, keep1 h s.2.2.1, keep1 h s.2.2.2.1, keep1 h s.2.2.2.2.1, keep1 h s.2.2.2.2.2.1, keep1 h s.2.2.2.2.2.2.1, keep1 h s.2.2.2.2.2.2.2.1, keep1 h s.2.2.2.2.2.2.2.2.1, keep1 h s.2.2.2.2.2.2.2.2.2.1, keep1 h s.2.2.2.2.2.2.2.2.2.2.1, keep1 h s.2.2.2.2.2.2.2.2.2.2.2.1, keep1 h s.2.2.2.2.2.2.2.2.2.2.2.2.1, keep1 h s.2.2.2.2.2.2.2.2.2.2.2.2.2.1, keep1 h s.2.2.2.2.2.2.2.2.2.2.2.2.2.2.1, keep1 h s.2.2.2.2.2.2.2.2.2.2.2.2.2.2.2.1, keep1 h s.2.2.2.2.2.2.2.2.2.2.2.2.2.2.2.2.1, keep1 h s.2.2.2.2.2.2.2.2.2.2.2.2.2.2.2.2.2.1, keep1 h s.2.2.2.2.2.2.2.2.2.2.2.2.2.2.2.2.2.2.1, keep1 h s.2.2.2.2.2.2.2.2.2.2.2.2.2.2.2.2.2.2.2.1, keep1 h s.2.2.2.2.2.2.2.2.2.2.2.2.2.2.2.2.2.2.2.2.1, keep1 h s.2.2.2.2.2.2.2.2.2.2.2.2.2.2.2.2.2.2.2.2.2.1, keep1 h s.2.2.2.2.2.2.2.2.2.2.2.2.2.2.2.2.2.2.2.2.2.2.1, keep1 h s.2.2.2.2.2.2.2.2.2.2.2.2.2.2.2.2.2.2.2.2.2.2.2.1, keep1 h s.2.2.2.2.2.2.2.2.2.2.2.2.2.2.2.2.2.2.2.2.2.2.2.2.1, keep1 h s.2.2.2.2.2.2.2.2.2.2.2.2.2.2.2.2.2.2.2.2.2.2.2.2.2.1, keep1 h s.2.2.2.2.2.2.2.2.2.2.2.2.2.2.2.2.2.2.2.2.2.2.2.2.2.2⟩
theorem keep10 {a b : World} {p0 p1 p2 p3 p4 p5 p6 p7 p8 p9 o0 o1 o2 o3 o4 o5 o6 o7 o8 o9 : Nat} {x0 x1 x2 x3 x4 x5 x6 x7 x8 x9 : Value} (h : Below a.heap.size a b)
    (s : a.cell? ⟨p0, o0, none⟩ = some x0 ∧ a.cell? ⟨p1, o1, none⟩ = some x1 ∧ a.cell? ⟨p2, o2, none⟩ = some x2 ∧ a.cell? ⟨p3, o3, none⟩ = some x3 ∧ a.cell? ⟨p4, o4, none⟩ = some x4 ∧ a.cell? ⟨p5, o5, none⟩ = some x5 ∧ a.cell? ⟨p6, o6, none⟩ = some x6 ∧ a.cell? ⟨p7, o7, none⟩ = some x7 ∧ a.cell? ⟨p8, o8, none⟩ = some x8 ∧ a.cell? ⟨p9, o9, none⟩ = some x9) :
    b.cell? ⟨p0, o0, none⟩ = some x0 ∧ b.cell? ⟨p1, o1, none⟩ = some x1 ∧ b.cell? ⟨p2, o2, none⟩ = some x2 ∧ b.cell? ⟨p3, o3, none⟩ = some x3 ∧ b.cell? ⟨p4, o4, none⟩ = some x4 ∧ b.cell? ⟨p5, o5, none⟩ = some x5 ∧ b.cell? ⟨p6, o6, none⟩ = some x6 ∧ b.cell? ⟨p7, o7, none⟩ = some x7 ∧ b.cell? ⟨p8, o8, none⟩ = some x8 ∧ b.cell? ⟨p9, o9, none⟩ = some x9 :=
  ⟨keep1 h s.1, keep1 h s.2.1, keep1 h s.2.2.1, keep1 h s.2.2.2.1, keep1 h s.2.2.2.2.1, keep1 h s.2.2.2.2.2.1, keep1 h s.2.2.2.2.2.2.1, keep1 h s.2.2.2.2.2.2.2.1, keep1 h s.2.2.2.2.2.2.2.2.1, keep1 h s.2.2.2.2.2.2.2.2.2⟩
def LF (w : World) (g b2 b4 : Nat) (T : Tr) : Prop := w.cell? ⟨g, 0, none⟩ = some (.string ⟨#[100, 111, 99]⟩) ∧ w.cell? ⟨g, 1, none⟩ = some (.string ⟨#[97]⟩) ∧ w.cell? ⟨g, 2, none⟩ = some (.string ⟨#[118, 105, 101, 119, 101, 114]⟩) ∧ w.cell? ⟨g, 3, none⟩ = some (.string ⟨#[117, 115, 101, 114]⟩) ∧ w.cell? ⟨g, 4, none⟩ = some (.string ⟨#[120]⟩) ∧ w.cell? ⟨g, 5, none⟩ = some (.string ⟨#[]⟩) ∧ w.cell? ⟨g, 6, none⟩ = some (.string ⟨#[100, 111, 99]⟩) ∧ w.cell? ⟨g, 7, none⟩ = some (.string ⟨#[97]⟩) ∧ w.cell? ⟨g, 8, none⟩ = some (.string ⟨#[118, 105, 101, 119, 101, 114]⟩) ∧ w.cell? ⟨g, 9, none⟩ = some (.string ⟨#[103, 114, 111, 117, 112]⟩) ∧ w.cell? ⟨g, 10, none⟩ = some (.string ⟨#[103]⟩) ∧ w.cell? ⟨g, 11, none⟩ = some (.string ⟨#[109, 101, 109, 98, 101, 114]⟩) ∧ w.cell? ⟨g, 12, none⟩ = some (.string ⟨#[100, 111, 99]⟩) ∧ w.cell? ⟨g, 13, none⟩ = some (.string ⟨#[98]⟩) ∧ w.cell? ⟨g, 14, none⟩ = some (.string ⟨#[118, 105, 101, 119, 101, 114]⟩) ∧ w.cell? ⟨g, 15, none⟩ = some (.string ⟨#[117, 115, 101, 114]⟩) ∧ w.cell? ⟨g, 16, none⟩ = some (.string ⟨#[120]⟩) ∧ w.cell? ⟨g, 17, none⟩ = some (.string ⟨#[]⟩) ∧ w.cell? ⟨b2, 0, none⟩ = some (.func (.func 50) #[] #[]) ∧ w.cell? ⟨b2, 1, none⟩ = some (.pointer T.ad) ∧ w.cell? ⟨b4, 0, none⟩ = some (.string ⟨#[100, 111, 99]⟩) ∧ w.cell? ⟨b4, 1, none⟩ = some (.string ⟨#[]⟩) ∧ w.cell? ⟨b4, 2, none⟩ = some (.string ⟨#[]⟩) ∧ w.cell? ⟨b4, 3, none⟩ = some (.string ⟨#[]⟩) ∧ w.cell? ⟨b4, 4, none⟩ = some (.string ⟨#[]⟩) ∧ w.cell? ⟨b4, 5, none⟩ = some (.string ⟨#[]⟩) ∧ w.cell? ⟨b4, 6, none⟩ = some (.bool false)
theorem of_small_l (g cap : Nat) (w : World) (h : Row w (some ⟨g, 0, none⟩) smallL) :
    Calls Tryz.prog 6 #[.slice (some ⟨g, 0, none⟩) 3 cap] w (GivesS w (sortL, 0)) := by
  have q := of_l (some ⟨g, 0, none⟩) smallL cap h fit0 (by decide)
  rw [of_small] at q; exact q
theorem fit2 : Fits t2 := ok_fits (by decide +kernel)
theorem with_small {w : World} {T : Tr} (h : MapL w fv T sortL) :
    Calls Tryz.prog 22 #[.agg #[.func (.func 50) #[] #[], .pointer T.ad], .agg #[.string ⟨#[100, 111, 99]⟩, .string ⟨#[98]⟩, .string ⟨#[118, 105, 101, 119, 101, 114]⟩, .string ⟨#[117, 115, 101, 114]⟩, .string ⟨#[120]⟩, .string ⟨#[]⟩, .bool true]] w fun e w' => ∃ T2 : Tr, e = .returned (.tuple #[.agg #[.func (.func 50) #[] #[], .pointer T2.ad], .int .i64 0]) ∧ MapL w' fv T2 [t1, t0] ∧ Below w.heap.size w w' := by
  have q := with_l t2 true fit2 h (by decide)
  rw [wth_small] at q
  refine Calls.mono (show Calls Tryz.prog 22 #[.agg #[.func (.func 50) #[] #[], .pointer T.ad], .agg #[.string ⟨#[100, 111, 99]⟩, .string ⟨#[98]⟩, .string ⟨#[118, 105, 101, 119, 101, 114]⟩, .string ⟨#[117, 115, 101, 114]⟩, .string ⟨#[120]⟩, .string ⟨#[]⟩, .bool true]] w _ from q) ?_
  rintro _ _ ⟨ov, T2, rfl, hL, hb⟩
  obtain rfl := hL.full (by decide)
  exact ⟨T2, rfl, hL, hb⟩
theorem with_zero (T : Tr) (w : World) :
    Calls Tryz.prog 22 #[.agg #[.func (.func 50) #[] #[], .pointer T.ad], .agg #[.string ⟨#[]⟩, .string ⟨#[]⟩, .string ⟨#[]⟩, .string ⟨#[]⟩, .string ⟨#[]⟩, .string ⟨#[]⟩, .bool false]] w fun e w' => e = .returned (.tuple #[.agg #[.nilFunc, .pointer none], .int .i64 6]) ∧ Below w.heap.size w w' :=
  with_bad0 (T := T) ⟨⟨#[]⟩, ⟨#[]⟩, ⟨#[]⟩, ⟨#[]⟩, ⟨#[]⟩, ⟨#[]⟩⟩ ⟨Nat.zero_le _, Nat.zero_le _, Nat.zero_le _, Nat.zero_le _, Nat.zero_le _, Nat.zero_le _⟩ false (by decide +kernel)
theorem lv_len {w : World} {T : Tr} (h : MapL w fv T sortL) :
    Calls Tryz.prog 44 #[.agg #[.func (.func 50) #[] #[], .pointer T.ad]] w fun e w' => e = .returned (.int .i64 3) ∧ Below w.heap.size w w' := len_l h
theorem lv_list {w : World} {T : Tr} (h : MapL w fv T sortL) :
    Calls Tryz.prog 37 #[.agg #[.func (.func 50) #[] #[], .pointer T.ad]] w fun e w' => ∃ A, e = .returned (.slice A 3 3) ∧ Row w' A sortL ∧ Below w.heap.size w w' := list_r h (by decide)
theorem lv_same (A C : Option Addr) (c d : Nat) (w : World) (h : Row w A sortL) (k : Row w C sortL) :
    Calls Tryz.prog 14 #[.slice A 3 c, .slice C 3 d] w fun e w' => e = .returned (.int .i64 1) ∧ Below w.heap.size w w' := rsame_f A C sortL sortL c d w 3 1 h k rfl rfl (by decide) (by decide +kernel)
theorem lv_set {w : World} {T : Tr} (h : MapL w fv T sortL) : SetL w fv T sortL := ⟨h, ok_sort, by decide⟩
theorem lv_goal {w : World} {T : Tr} (h : MapL w fv T sortL) :
    Calls Tryz.prog 9 #[.agg #[.func (.func 50) #[] #[], .pointer T.ad], .agg #[.string ⟨#[100, 111, 99]⟩, .string ⟨#[97]⟩, .string ⟨#[118, 105, 101, 119, 101, 114]⟩]] w fun e w' => ∃ A, e = .returned (.slice A 2 2) ∧ Below w.heap.size w w' := by
  refine (goal_l ⟨#[100, 111, 99]⟩ ⟨#[97]⟩ ⟨#[118, 105, 101, 119, 101, 114]⟩ (lv_set h) (by decide) (by decide) (by decide)).mono ?_
  rintro _ _ ⟨A, rfl, -, hb⟩
  have e : (ofG ⟨#[100, 111, 99]⟩ ⟨#[97]⟩ ⟨#[118, 105, 101, 119, 101, 114]⟩ sortL).length = 2 := by decide +kernel
  exact ⟨A, by rw [e], hb⟩
theorem lv_sub {w : World} {T : Tr} (h : MapL w fv T sortL) :
    Calls Tryz.prog 10 #[.agg #[.func (.func 50) #[] #[], .pointer T.ad], .agg #[.string ⟨#[117, 115, 101, 114]⟩, .string ⟨#[120]⟩, .string ⟨#[]⟩]] w fun e w' => ∃ A, e = .returned (.slice A 2 2) ∧ Below w.heap.size w w' := by
  refine (subject_l ⟨#[117, 115, 101, 114]⟩ ⟨#[120]⟩ ⟨#[]⟩ (lv_set h) (by decide) (by decide) (by decide)).mono ?_
  rintro _ _ ⟨A, rfl, -, hb⟩
  have e : (ofU ⟨#[117, 115, 101, 114]⟩ ⟨#[120]⟩ ⟨#[]⟩ sortL).length = 2 := by decide +kernel
  exact ⟨A, by rw [e], hb⟩
theorem lv_match {w : World} {T : Tr} (h : MapL w fv T sortL) :
    Calls Tryz.prog 11 #[.agg #[.func (.func 50) #[] #[], .pointer T.ad], .agg #[.string ⟨#[100, 111, 99]⟩, .string ⟨#[]⟩, .string ⟨#[]⟩, .string ⟨#[]⟩, .string ⟨#[]⟩, .string ⟨#[]⟩, .bool false]] w fun e w' => ∃ A, e = .returned (.slice A 3 3) ∧ Below w.heap.size w w' := by
  refine (match_l ⟨⟨#[100, 111, 99]⟩, ⟨#[]⟩, ⟨#[]⟩, ⟨#[]⟩, ⟨#[]⟩, ⟨#[]⟩, false⟩ (lv_set h) ⟨by decide, by decide, by decide, by decide, by decide, by decide⟩).mono ?_
  rintro _ _ ⟨A, rfl, -, hb⟩
  have e : (mtc ⟨⟨#[100, 111, 99]⟩, ⟨#[]⟩, ⟨#[]⟩, ⟨#[]⟩, ⟨#[]⟩, ⟨#[]⟩, false⟩ sortL).length = 3 := by decide +kernel
  exact ⟨A, by rw [e], hb⟩
theorem lv_goals {w : World} {T : Tr} (h : MapL w fv T [t1, t0]) :
    Calls Tryz.prog 12 #[.agg #[.func (.func 50) #[] #[], .pointer T.ad]] w fun e w' => ∃ A, e = .returned (.slice A 1 1) ∧ RowG w' A [glT t0] ∧ Below w.heap.size w w' := by
  have q := goals_l h (by decide)
  have e : gls [t1, t0] = [glT t0] := by decide +kernel
  rw [e] at q; exact q
theorem lv_len2 {w : World} {T : Tr} (h : MapL w fv T [t1, t0]) :
    Calls Tryz.prog 44 #[.agg #[.func (.func 50) #[] #[], .pointer T.ad]] w fun e w' => e = .returned (.int .i64 2) ∧ Below w.heap.size w w' := len_l h
theorem lv_len0 (w : World) :
    Calls Tryz.prog 44 #[.agg #[.nilFunc, .pointer none]] w fun e w' => e = .returned (.int .i64 0) ∧ Below w.heap.size w w' := len_n (MapL.zero w)
theorem row_sort (w : World) : Row (w.alloc (.cells #[.string ⟨#[100, 111, 99]⟩, .string ⟨#[97]⟩, .string ⟨#[118, 105, 101, 119, 101, 114]⟩, .string ⟨#[103, 114, 111, 117, 112]⟩, .string ⟨#[103]⟩, .string ⟨#[109, 101, 109, 98, 101, 114]⟩, .string ⟨#[100, 111, 99]⟩, .string ⟨#[97]⟩, .string ⟨#[118, 105, 101, 119, 101, 114]⟩, .string ⟨#[117, 115, 101, 114]⟩, .string ⟨#[120]⟩, .string ⟨#[]⟩, .string ⟨#[100, 111, 99]⟩, .string ⟨#[98]⟩, .string ⟨#[118, 105, 101, 119, 101, 114]⟩, .string ⟨#[117, 115, 101, 114]⟩, .string ⟨#[120]⟩, .string ⟨#[]⟩] 48 (0, 0))) (some ⟨w.heap.size, 0, none⟩) sortL := fun _ => by
  have n := new_at w (.cells #[.string ⟨#[100, 111, 99]⟩, .string ⟨#[97]⟩, .string ⟨#[118, 105, 101, 119, 101, 114]⟩, .string ⟨#[103, 114, 111, 117, 112]⟩, .string ⟨#[103]⟩, .string ⟨#[109, 101, 109, 98, 101, 114]⟩, .string ⟨#[100, 111, 99]⟩, .string ⟨#[97]⟩, .string ⟨#[118, 105, 101, 119, 101, 114]⟩, .string ⟨#[117, 115, 101, 114]⟩, .string ⟨#[120]⟩, .string ⟨#[]⟩, .string ⟨#[100, 111, 99]⟩, .string ⟨#[98]⟩, .string ⟨#[118, 105, 101, 119, 101, 114]⟩, .string ⟨#[117, 115, 101, 114]⟩, .string ⟨#[120]⟩, .string ⟨#[]⟩] 48 (0, 0))
  have cc := fun j => box_cell n j
  refine ⟨w.heap.size, 0, rfl, by simp, fun i hi c v hv => ?_⟩
  have hc := enc_lt hv
  rw [cc, ← hv, Nat.zero_add]
  have hi3 : i < 3 := hi
  match i, hi3, c, hc with
  | 0, _, 0, _ => rfl
  | 0, _, 1, _ => rfl
  | 0, _, 2, _ => rfl
  | 0, _, 3, _ => rfl
  | 0, _, 4, _ => rfl
  | 0, _, 5, _ => rfl
  | 1, _, 0, _ => rfl
  | 1, _, 1, _ => rfl
  | 1, _, 2, _ => rfl
  | 1, _, 3, _ => rfl
  | 1, _, 4, _ => rfl
  | 1, _, 5, _ => rfl
  | 2, _, 0, _ => rfl
  | 2, _, 1, _ => rfl
  | 2, _, 2, _ => rfl
  | 2, _, 3, _ => rfl
  | 2, _, 4, _ => rfl
  | 2, _, 5, _ => rfl
set_option maxRecDepth 20000 in
set_option maxHeartbeats 4000000 in
theorem lives_any (w : World) : Calls Tryz.prog 20 #[] w fun e w' => e = .returned (.bool true) ∧ Below w.heap.size w w' := by
  go_enter Tryz.func20, Tryz.ntmps20
  go_wp2_with fail
  refine (small_any _).mono ?_
  rintro _ w1 ⟨v, rfl, hown, hb1⟩
  rcases hown.form with ⟨-, hl⟩ | ⟨g, cap, rfl, hcap, hR⟩
  · cases hl
  have HR := hid hR
  have HC := hid (sm_cells hR)
  have HB1 := hid hb1
  clear hown hR hb1 hcap
  simp only [show smallL.length = 3 from rfl]
  go_wp2_with fail
  refine (of_small_l g cap _ HR.out).mono ?_
  rintro _ w2 ⟨ov, T, rfl, hL, hb2⟩
  obtain rfl := hL.full (by decide)
  simp only [fv]
  have HL2 := hid hL
  have HC2 := hid (keep18 hb2 HC.out)
  have HB2 := hid (g_trans HB1.out hb2)
  clear hL hb2 HC HB1 HR
  go_wp2_with fail
  refine (fparse_x _ _ _ _ _ _ _ _ _ _ (by decide) fX_par).mono ?_
  rintro _ w3 ⟨rfl, hb3⟩
  have hx3 := keep2 hb3 (box2p w2 (.func (.func 50) #[] #[]) (.pointer T.ad) 38)
  have hA3 := g_trans (g_alloc (g_refl (a := w2)) (.cells #[.func (.func 50) #[] #[], .pointer T.ad] 38 (0, 0))) hb3
  have HC3 := hid (keep18 hA3 HC2.out)
  have HL3 := hid (HL2.out.below hA3)
  have HB3 := hid (g_trans HB2.out hA3)
  generalize w2.heap.size = b2 at *
  have HX3 := hid hx3
  clear hx3 hb3 hA3 HC2 HL2 HB2
  go_wp2_with fail
  have hA4 := g_alloc (g_refl (a := w3)) (.cells #[.string ⟨#[100, 111, 99]⟩, .string ⟨#[]⟩, .string ⟨#[]⟩, .string ⟨#[]⟩, .string ⟨#[]⟩, .string ⟨#[]⟩, .bool false] 51 (0, 0))
  have HC4 := hid (keep18 hA4 HC3.out)
  have HX4 := hid (keep2 hA4 HX3.out)
  have HL4 := hid (HL3.out.below hA4)
  have HB4 := hid (g_trans HB3.out hA4)
  have h7 := new_at w3 (.cells #[.string ⟨#[100, 111, 99]⟩, .string ⟨#[]⟩, .string ⟨#[]⟩, .string ⟨#[]⟩, .string ⟨#[]⟩, .string ⟨#[]⟩, .bool false] 51 (0, 0))
  have HF4 := hid h7
  generalize hW4 : w3.alloc (.cells #[.string ⟨#[100, 111, 99]⟩, .string ⟨#[]⟩, .string ⟨#[]⟩, .string ⟨#[]⟩, .string ⟨#[]⟩, .string ⟨#[]⟩, .bool false] 51 (0, 0)) = W4 at *
  generalize w3.heap.size = b4 at *
  clear hW4 hA4 h7 HC3 HX3 HL3 HB3
  obtain ⟨-, -, -, -, -, -, -, -, -, -, -, -, c12, c13, c14, c15, c16, c17⟩ := HC4.out
  have hS : W4.drew.cell? ⟨b2, 0, none⟩ = some (.func (.func 50) #[] #[]) ∧ W4.drew.cell? ⟨b2, 1, none⟩ = some (.pointer T.ad) ∧ W4.drew.cell? ⟨g, 12, none⟩ = some (.string ⟨#[100, 111, 99]⟩) ∧ W4.drew.cell? ⟨g, 13, none⟩ = some (.string ⟨#[98]⟩) ∧ W4.drew.cell? ⟨g, 14, none⟩ = some (.string ⟨#[118, 105, 101, 119, 101, 114]⟩) ∧ W4.drew.cell? ⟨g, 15, none⟩ = some (.string ⟨#[117, 115, 101, 114]⟩) ∧ W4.drew.cell? ⟨g, 16, none⟩ = some (.string ⟨#[120]⟩) ∧ W4.drew.cell? ⟨g, 17, none⟩ = some (.string ⟨#[]⟩) := ⟨HX4.out.1, HX4.out.2, c12, c13, c14, c15, c16, c17⟩
  have HS4 := hid hS
  have HLD : Hid (MapL W4.drew fv T sortL) := hid (HL4.out.below (g_drew g_refl))
  clear c12 c13 c14 c15 c16 c17
  go_cut [6, 7] (fun s6 s7 wx => ∃ (b6 : Nat) (T2 : Tr), s6 = .pointer (some ⟨b6, 0, none⟩) ∧ s7 = .int .i64 0 ∧ (wx.cell? ⟨b6, 0, none⟩ = some (.func (.func 50) #[] #[]) ∧ wx.cell? ⟨b6, 1, none⟩ = some (.pointer T2.ad)) ∧ MapL wx fv T2 [t1, t0] ∧ Below W4.heap.size W4 wx)
  case first =>
    go_region_held3 (fun w' => w'.cell? ⟨b2, 0, none⟩ = some (.func (.func 50) #[] #[]) ∧ w'.cell? ⟨b2, 1, none⟩ = some (.pointer T.ad) ∧ w'.cell? ⟨g, 12, none⟩ = some (.string ⟨#[100, 111, 99]⟩) ∧ w'.cell? ⟨g, 13, none⟩ = some (.string ⟨#[98]⟩) ∧ w'.cell? ⟨g, 14, none⟩ = some (.string ⟨#[118, 105, 101, 119, 101, 114]⟩) ∧ w'.cell? ⟨g, 15, none⟩ = some (.string ⟨#[117, 115, 101, 114]⟩) ∧ w'.cell? ⟨g, 16, none⟩ = some (.string ⟨#[120]⟩) ∧ w'.cell? ⟨g, 17, none⟩ = some (.string ⟨#[]⟩)) (first | with_reducible assumption | exact keep8 (g_alloc g_refl _) (by with_reducible assumption) | exact keep8 (g_set (g_set hB5 (Nat.le_refl _) _) (Nat.le_refl _) _) HS4.out | exact keep8 (g_alloc hB5 _) HS4.out | exact keep8 hB5 HS4.out)
      (first | (go_at_call 22; (with_reducible refine Calls.mono (with_small HLD.out) ?_); rintro _ w5 ⟨T2, rfl, hL5, hb5⟩; have hB5 := hb5) | (go_at_call 22; (with_reducible refine Calls.mono (with_small (HLD.out.below (g_alloc g_refl _))) ?_); rintro _ w5 ⟨T2, rfl, hL5, hb5⟩; have hB5 := g_trans (g_alloc (g_refl (a := W4.drew)) _) hb5; obtain ⟨r0, r1, r2, f0, f1⟩ := res2 (show (W4.drew.alloc (.cells #[.nilFunc, .pointer none] 38 (0, 0))).heap[W4.heap.size]? = some (.cells #[.nilFunc, .pointer none] 38 (0, 0)) from new_at W4.drew _) hb5))
    all_goals
      go_wp2_with fail
      go_meet
      first
      | exact ⟨w5.heap.size, T2, rfl, rfl, box2p w5 _ _ _, hL5.below (g_alloc g_refl _), g_alloc (g_trans (g_drew g_refl) hB5) _⟩
      | exact ⟨W4.heap.size, T2, rfl, rfl, ⟨(box_cell (set2_heap r0 _ _) 0).trans rfl, (box_cell (set2_heap r0 _ _) 1).trans rfl⟩, hL5.bod (set_two r0 _ _) (by decide), g_set (g_set (g_trans (g_drew g_refl) hB5) (Nat.le_refl _) _) (Nat.le_refl _) _⟩
  case rest =>
    obtain ⟨b6, T2, rfl, rfl, hx6, hL6, hB6⟩ := hcut
    have HX6 := hid hx6
    have HL6 := hid hL6
    have HC6 := hid (keep18 hB6 HC4.out)
    have HXS6 := hid (keep2 hB6 HX4.out)
    have HLS6 := hid (HL4.out.below hB6)
    have HF6 := hid ((hB6.block _ (Array.getElem?_eq_some_iff.1 HF4.out).1).trans HF4.out)
    have HB6 := hid (g_trans HB4.out hB6)
    clear hx6 hL6 hB6 HC4 HX4 HL4 HF4 HB4 HS4 HLD hS
    obtain ⟨k0, k1⟩ := HXS6.out
    go_wp2_with fail
    refine (with_zero T _).mono ?_
    rintro _ w7 ⟨rfl, hb7⟩
    clear k0 k1
    go_wp2_with fail
    refine (of_nil _).mono ?_
    rintro _ w8 ⟨rfl, hb8⟩
    have hA := g_alloc (g_trans (g_alloc hb7 (.cells #[.nilFunc, .pointer none] 38 (0, 0))) hb8) (.cells #[.nilFunc, .pointer none] 38 (0, 0))
    have hx10 := box2p w8 .nilFunc (.pointer none) 38
    have HX9 := hid (keep2 hA HX6.out)
    have HL9 := hid (HL6.out.below hA)
    have HC9 := hid (keep18 hA HC6.out)
    have HXS9 := hid (keep2 hA HXS6.out)
    have HLS9 := hid (HLS6.out.below hA)
    have hf9 := (hA.block _ (Array.getElem?_eq_some_iff.1 HF6.out).1).trans HF6.out
    have HB9 := hid (g_trans HB6.out hA)
    have HX10 := hid hx10
    have cf := fun j => box_cell hf9 j
    go_upto_region 7 with fail
    generalize hW9 : w8.alloc (.cells #[.nilFunc, .pointer none] 38 (0, 0)) = W9 at *
    generalize w8.heap.size = b10 at *
    have hS : W9.drew.cell? ⟨b2, 0, none⟩ = some (.func (.func 50) #[] #[]) ∧ W9.drew.cell? ⟨b2, 1, none⟩ = some (.pointer T.ad) ∧ W9.drew.cell? ⟨g, 0, none⟩ = some (.string ⟨#[100, 111, 99]⟩) ∧ W9.drew.cell? ⟨g, 1, none⟩ = some (.string ⟨#[97]⟩) ∧ W9.drew.cell? ⟨g, 2, none⟩ = some (.string ⟨#[118, 105, 101, 119, 101, 114]⟩) ∧ W9.drew.cell? ⟨g, 3, none⟩ = some (.string ⟨#[117, 115, 101, 114]⟩) ∧ W9.drew.cell? ⟨g, 4, none⟩ = some (.string ⟨#[120]⟩) ∧ W9.drew.cell? ⟨g, 5, none⟩ = some (.string ⟨#[]⟩) ∧ W9.drew.cell? ⟨g, 6, none⟩ = some (.string ⟨#[100, 111, 99]⟩) ∧ W9.drew.cell? ⟨g, 7, none⟩ = some (.string ⟨#[97]⟩) ∧ W9.drew.cell? ⟨g, 8, none⟩ = some (.string ⟨#[118, 105, 101, 119, 101, 114]⟩) ∧ W9.drew.cell? ⟨g, 9, none⟩ = some (.string ⟨#[103, 114, 111, 117, 112]⟩) ∧ W9.drew.cell? ⟨g, 10, none⟩ = some (.string ⟨#[103]⟩) ∧ W9.drew.cell? ⟨g, 11, none⟩ = some (.string ⟨#[109, 101, 109, 98, 101, 114]⟩) ∧ W9.drew.cell? ⟨g, 12, none⟩ = some (.string ⟨#[100, 111, 99]⟩) ∧ W9.drew.cell? ⟨g, 13, none⟩ = some (.string ⟨#[98]⟩) ∧ W9.drew.cell? ⟨g, 14, none⟩ = some (.string ⟨#[118, 105, 101, 119, 101, 114]⟩) ∧ W9.drew.cell? ⟨g, 15, none⟩ = some (.string ⟨#[117, 115, 101, 114]⟩) ∧ W9.drew.cell? ⟨g, 16, none⟩ = some (.string ⟨#[120]⟩) ∧ W9.drew.cell? ⟨g, 17, none⟩ = some (.string ⟨#[]⟩) ∧ W9.drew.cell? ⟨b4, 0, none⟩ = some (.string ⟨#[100, 111, 99]⟩) ∧ W9.drew.cell? ⟨b4, 1, none⟩ = some (.string ⟨#[]⟩) ∧ W9.drew.cell? ⟨b4, 2, none⟩ = some (.string ⟨#[]⟩) ∧ W9.drew.cell? ⟨b4, 3, none⟩ = some (.string ⟨#[]⟩) ∧ W9.drew.cell? ⟨b4, 4, none⟩ = some (.string ⟨#[]⟩) ∧ W9.drew.cell? ⟨b4, 5, none⟩ = some (.string ⟨#[]⟩) ∧ W9.drew.cell? ⟨b4, 6, none⟩ = some (.bool false) := by
      obtain ⟨x0, x1⟩ := HXS9.out
      obtain ⟨c0, c1, c2, c3, c4, c5, c6, c7, c8, c9, c10, c11, c12, c13, c14, c15, c16, c17⟩ := HC9.out
      exact ⟨x0, x1, c0, c1, c2, c3, c4, c5, c6, c7, c8, c9, c10, c11, c12, c13, c14, c15, c16, c17, (cf 0).trans rfl, (cf 1).trans rfl, (cf 2).trans rfl, (cf 3).trans rfl, (cf 4).trans rfl, (cf 5).trans rfl, (cf 6).trans rfl⟩
    have HLD : Hid (MapL W9.drew fv T sortL) := hid (HLS9.out.below (g_drew g_refl))
    clear hW9 cf hf9 hA hb7 hb8 hx10 HX6 HL6 HC6 HXS6 HLS6 HF6 HB6
    go_cut [98] (fun s wx => s = .bool false ∧ Below W9.heap.size W9 wx)
    case first =>
      go_region_held3 (fun w' => w'.cell? ⟨b2, 0, none⟩ = some (.func (.func 50) #[] #[]) ∧ w'.cell? ⟨b2, 1, none⟩ = some (.pointer T.ad) ∧ w'.cell? ⟨g, 0, none⟩ = some (.string ⟨#[100, 111, 99]⟩) ∧ w'.cell? ⟨g, 1, none⟩ = some (.string ⟨#[97]⟩) ∧ w'.cell? ⟨g, 2, none⟩ = some (.string ⟨#[118, 105, 101, 119, 101, 114]⟩) ∧ w'.cell? ⟨g, 3, none⟩ = some (.string ⟨#[117, 115, 101, 114]⟩) ∧ w'.cell? ⟨g, 4, none⟩ = some (.string ⟨#[120]⟩) ∧ w'.cell? ⟨g, 5, none⟩ = some (.string ⟨#[]⟩) ∧ w'.cell? ⟨g, 6, none⟩ = some (.string ⟨#[100, 111, 99]⟩) ∧ w'.cell? ⟨g, 7, none⟩ = some (.string ⟨#[97]⟩) ∧ w'.cell? ⟨g, 8, none⟩ = some (.string ⟨#[118, 105, 101, 119, 101, 114]⟩) ∧ w'.cell? ⟨g, 9, none⟩ = some (.string ⟨#[103, 114, 111, 117, 112]⟩) ∧ w'.cell? ⟨g, 10, none⟩ = some (.string ⟨#[103]⟩) ∧ w'.cell? ⟨g, 11, none⟩ = some (.string ⟨#[109, 101, 109, 98, 101, 114]⟩) ∧ w'.cell? ⟨g, 12, none⟩ = some (.string ⟨#[100, 111, 99]⟩) ∧ w'.cell? ⟨g, 13, none⟩ = some (.string ⟨#[98]⟩) ∧ w'.cell? ⟨g, 14, none⟩ = some (.string ⟨#[118, 105, 101, 119, 101, 114]⟩) ∧ w'.cell? ⟨g, 15, none⟩ = some (.string ⟨#[117, 115, 101, 114]⟩) ∧ w'.cell? ⟨g, 16, none⟩ = some (.string ⟨#[120]⟩) ∧ w'.cell? ⟨g, 17, none⟩ = some (.string ⟨#[]⟩) ∧ w'.cell? ⟨b4, 0, none⟩ = some (.string ⟨#[100, 111, 99]⟩) ∧ w'.cell? ⟨b4, 1, none⟩ = some (.string ⟨#[]⟩) ∧ w'.cell? ⟨b4, 2, none⟩ = some (.string ⟨#[]⟩) ∧ w'.cell? ⟨b4, 3, none⟩ = some (.string ⟨#[]⟩) ∧ w'.cell? ⟨b4, 4, none⟩ = some (.string ⟨#[]⟩) ∧ w'.cell? ⟨b4, 5, none⟩ = some (.string ⟨#[]⟩) ∧ w'.cell? ⟨b4, 6, none⟩ = some (.bool false)) (first | with_reducible assumption | exact keep27 (by with_reducible assumption) (by with_reducible assumption) | exact keep27 (g_alloc g_refl _) (by with_reducible assumption))
        (first
        | (go_at_call 44; (with_reducible refine Calls.mono (lv_len HLD.out) ?_); rintro _ x1 ⟨rfl, hc1⟩; have hM1 := HLD.out.below hc1)
        | (go_at_call 37; (with_reducible refine Calls.mono (lv_list hM1) ?_); rintro _ x2 ⟨A2, rfl, hR2, hc2⟩; have hM2 := hM1.below hc2; have hB2 := g_trans hc1 hc2)
        | (go_at_call 37; (with_reducible refine Calls.mono (lv_list (hM1.below (g_alloc g_refl _))) ?_); rintro _ x2 ⟨A2, rfl, hR2, hc2⟩; have hL2 := (row_sort x1).below hc2; have hM2 := (hM1.below (g_alloc g_refl (.cells #[.string ⟨#[100, 111, 99]⟩, .string ⟨#[97]⟩, .string ⟨#[118, 105, 101, 119, 101, 114]⟩, .string ⟨#[103, 114, 111, 117, 112]⟩, .string ⟨#[103]⟩, .string ⟨#[109, 101, 109, 98, 101, 114]⟩, .string ⟨#[100, 111, 99]⟩, .string ⟨#[97]⟩, .string ⟨#[118, 105, 101, 119, 101, 114]⟩, .string ⟨#[117, 115, 101, 114]⟩, .string ⟨#[120]⟩, .string ⟨#[]⟩, .string ⟨#[100, 111, 99]⟩, .string ⟨#[98]⟩, .string ⟨#[118, 105, 101, 119, 101, 114]⟩, .string ⟨#[117, 115, 101, 114]⟩, .string ⟨#[120]⟩, .string ⟨#[]⟩] 48 (0, 0)))).below hc2; have hB2 := g_trans (g_alloc hc1 (.cells #[.string ⟨#[100, 111, 99]⟩, .string ⟨#[97]⟩, .string ⟨#[118, 105, 101, 119, 101, 114]⟩, .string ⟨#[103, 114, 111, 117, 112]⟩, .string ⟨#[103]⟩, .string ⟨#[109, 101, 109, 98, 101, 114]⟩, .string ⟨#[100, 111, 99]⟩, .string ⟨#[97]⟩, .string ⟨#[118, 105, 101, 119, 101, 114]⟩, .string ⟨#[117, 115, 101, 114]⟩, .string ⟨#[120]⟩, .string ⟨#[]⟩, .string ⟨#[100, 111, 99]⟩, .string ⟨#[98]⟩, .string ⟨#[118, 105, 101, 119, 101, 114]⟩, .string ⟨#[117, 115, 101, 114]⟩, .string ⟨#[120]⟩, .string ⟨#[]⟩] 48 (0, 0))) hc2)
        | (go_at_call 14; (with_reducible refine Calls.mono (lv_same _ _ _ _ _ (hR2.below (g_alloc g_refl _)) (row_sort _)) ?_); rintro _ x3 ⟨rfl, hc3⟩; have hM3 := (hM2.below (g_alloc g_refl (.cells #[.string ⟨#[100, 111, 99]⟩, .string ⟨#[97]⟩, .string ⟨#[118, 105, 101, 119, 101, 114]⟩, .string ⟨#[103, 114, 111, 117, 112]⟩, .string ⟨#[103]⟩, .string ⟨#[109, 101, 109, 98, 101, 114]⟩, .string ⟨#[100, 111, 99]⟩, .string ⟨#[97]⟩, .string ⟨#[118, 105, 101, 119, 101, 114]⟩, .string ⟨#[117, 115, 101, 114]⟩, .string ⟨#[120]⟩, .string ⟨#[]⟩, .string ⟨#[100, 111, 99]⟩, .string ⟨#[98]⟩, .string ⟨#[118, 105, 101, 119, 101, 114]⟩, .string ⟨#[117, 115, 101, 114]⟩, .string ⟨#[120]⟩, .string ⟨#[]⟩] 48 (0, 0)))).below hc3; have hB3 := g_trans (g_alloc hB2 (.cells #[.string ⟨#[100, 111, 99]⟩, .string ⟨#[97]⟩, .string ⟨#[118, 105, 101, 119, 101, 114]⟩, .string ⟨#[103, 114, 111, 117, 112]⟩, .string ⟨#[103]⟩, .string ⟨#[109, 101, 109, 98, 101, 114]⟩, .string ⟨#[100, 111, 99]⟩, .string ⟨#[97]⟩, .string ⟨#[118, 105, 101, 119, 101, 114]⟩, .string ⟨#[117, 115, 101, 114]⟩, .string ⟨#[120]⟩, .string ⟨#[]⟩, .string ⟨#[100, 111, 99]⟩, .string ⟨#[98]⟩, .string ⟨#[118, 105, 101, 119, 101, 114]⟩, .string ⟨#[117, 115, 101, 114]⟩, .string ⟨#[120]⟩, .string ⟨#[]⟩] 48 (0, 0))) hc3)
        | (go_at_call 14; (with_reducible refine Calls.mono (lv_same _ _ _ _ _ hR2 hL2) ?_); rintro _ x3 ⟨rfl, hc3⟩; have hM3 := hM2.below hc3; have hB3 := g_trans hB2 hc3)
        | (go_at_call 9; (with_reducible refine Calls.mono (lv_goal hM3) ?_); rintro _ x4 ⟨A4, rfl, hc4⟩; have hM4 := hM3.below hc4)
        | (go_at_call 10; (with_reducible refine Calls.mono (lv_sub hM4) ?_); rintro _ x5 ⟨A5, rfl, hc5⟩; have hM5 := hM4.below hc5)
        | (go_at_call 11; (with_reducible refine Calls.mono (lv_match hM5) ?_); rintro _ x6 ⟨A6, rfl, hc6⟩))
      all_goals
        go_wp2_with fail
        go_meet
        exact ⟨rfl, g_trans (g_trans (g_trans (g_trans (g_drew g_refl) hB3) hc4) hc5) hc6⟩
    case rest =>
      obtain ⟨rfl, hB⟩ := hcut
      have HXA := hid (keep2 hB HX9.out)
      have HLA := hid (HL9.out.below hB)
      have HCA := hid (keep18 hB HC9.out)
      have HXB := hid (keep2 hB HX10.out)
      have HBA := hid (g_trans HB9.out hB)
      obtain ⟨k0, k1⟩ := HXA.out
      clear hB HX9 HL9 HC9 HX10 HB9 hS HLD HXS9 HLS9
      go_wp2_with fail
      refine (lv_goals HLA.out).mono ?_
      rintro _ w10 ⟨A, rfl, hRG, hb10⟩
      obtain ⟨bb, oo, rfl, hLG⟩ := hRG (by decide)
      have g0 : w10.cell? ⟨bb, oo, none⟩ = some (.string ⟨#[100, 111, 99]⟩) := hLG.2 0 (by decide) 0 _ rfl
      have g1 : w10.cell? ⟨bb, oo + 1, none⟩ = some (.string ⟨#[97]⟩) := hLG.2 0 (by decide) 1 _ rfl
      have g2 : w10.cell? ⟨bb, oo + 2, none⟩ = some (.string ⟨#[118, 105, 101, 119, 101, 114]⟩) := hLG.2 0 (by decide) 2 _ rfl
      obtain ⟨c0, c1, c2, -⟩ := keep18 hb10 HCA.out
      obtain ⟨k2, k3⟩ := keep2 hb10 HXA.out
      obtain ⟨k4, k5⟩ := keep2 hb10 HXB.out
      have HLB := hid (HLA.out.below hb10)
      have HBB := hid (g_trans HBA.out hb10)
      have heq := run_eqlG (glT t0) (glT t0) true (by simp)
      simp only [glT, t0] at heq
      clear k0 k1 hLG hb10 HCA HXA HXB HLA HBA
      go_upto_region 10 with fail
      have hS : w10.drew.cell? ⟨b6, 0, none⟩ = some (.func (.func 50) #[] #[]) ∧ w10.drew.cell? ⟨b6, 1, none⟩ = some (.pointer T2.ad) ∧ w10.drew.cell? ⟨bb, oo, none⟩ = some (.string ⟨#[100, 111, 99]⟩) ∧ w10.drew.cell? ⟨bb, oo + 1, none⟩ = some (.string ⟨#[97]⟩) ∧ w10.drew.cell? ⟨bb, oo + 2, none⟩ = some (.string ⟨#[118, 105, 101, 119, 101, 114]⟩) ∧ w10.drew.cell? ⟨g, 0, none⟩ = some (.string ⟨#[100, 111, 99]⟩) ∧ w10.drew.cell? ⟨g, 1, none⟩ = some (.string ⟨#[97]⟩) ∧ w10.drew.cell? ⟨g, 2, none⟩ = some (.string ⟨#[118, 105, 101, 119, 101, 114]⟩) ∧ w10.drew.cell? ⟨b10, 0, none⟩ = some (.nilFunc) ∧ w10.drew.cell? ⟨b10, 1, none⟩ = some (.pointer none) := ⟨k2, k3, g0, g1, g2, c0, c1, c2, k4, k5⟩
      have HLD : Hid (MapL w10.drew fv T2 [t1, t0]) := hid (HLB.out.below (g_drew g_refl))
      clear k2 k3 g0 g1 g2 c0 c1 c2 k4 k5
      go_region_held3 (fun w' => w'.cell? ⟨b6, 0, none⟩ = some (.func (.func 50) #[] #[]) ∧ w'.cell? ⟨b6, 1, none⟩ = some (.pointer T2.ad) ∧ w'.cell? ⟨bb, oo, none⟩ = some (.string ⟨#[100, 111, 99]⟩) ∧ w'.cell? ⟨bb, oo + 1, none⟩ = some (.string ⟨#[97]⟩) ∧ w'.cell? ⟨bb, oo + 2, none⟩ = some (.string ⟨#[118, 105, 101, 119, 101, 114]⟩) ∧ w'.cell? ⟨g, 0, none⟩ = some (.string ⟨#[100, 111, 99]⟩) ∧ w'.cell? ⟨g, 1, none⟩ = some (.string ⟨#[97]⟩) ∧ w'.cell? ⟨g, 2, none⟩ = some (.string ⟨#[118, 105, 101, 119, 101, 114]⟩) ∧ w'.cell? ⟨b10, 0, none⟩ = some (.nilFunc) ∧ w'.cell? ⟨b10, 1, none⟩ = some (.pointer none)) (first | with_reducible assumption | exact keep10 (by with_reducible assumption) (by with_reducible assumption))
        (first
        | (go_at_call 44; (with_reducible refine Calls.mono (lv_len2 HLD.out) ?_); rintro _ x1 ⟨rfl, hc1⟩)
        | (go_at_call 44; (with_reducible refine Calls.mono (lv_len0 _) ?_); rintro _ x2 ⟨rfl, hc2⟩))
      all_goals go_wp2
      all_goals go_ret
      all_goals exact ⟨rfl, g_trans (g_trans (g_drew HBB.out) hc1) hc2⟩
end Go.Proofs.YtgfgfggoofjeeaaGreat.DT
