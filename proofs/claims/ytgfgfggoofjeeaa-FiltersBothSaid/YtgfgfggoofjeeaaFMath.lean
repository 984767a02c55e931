/-
  PLAIN FACTS about filters: what they take, their order, their span in a sorted list, the filter of both. No program.
-/
import Derived.Test.YtgfgfggoofjeeaaTGrew
namespace Go.Proofs.Ytgfgfggoofjeeaa
open Go.RowKit

/-- a filter as plain data -/
structure Fil where
  a : ByteArray
  b : ByteArray
  c : ByteArray
  d : ByteArray
  e : ByteArray
  f : ByteArray
  x : Bool
  deriving DecidableEq, Inhabited
/-- the value of a filter -/
def valF (f : Fil) : Value := .agg #[.string f.a, .string f.b, .string f.c, .string f.d, .string f.e, .string f.f, .bool f.x]
/-- does a field take this text? -/
def okF (u v : ByteArray) : Bool := u.toList.isEmpty || decide (u = v)
/-- does a filter take a tuple? -/
def takes (f : Fil) (t : Tup) : Bool := okF f.a t.a && okF f.b t.b && okF f.c t.c && (!f.x || decide (f.d = t.d ∧ f.e = t.e ∧ f.f = t.f))
/-- the prefix -/
def fpre (f : Fil) : Int := if f.a.toList.isEmpty then 0 else if f.b.toList.isEmpty then 1 else if f.c.toList.isEmpty then 2 else if f.x then 4 else 3
/-- the order of the things that a prefix counts -/
def ordL : List (ByteArray × ByteArray) → Int → Int
  | [], z => z
  | p :: r, z => if p.1.toList.isEmpty then 0 else if cmpS p.2 p.1 = 0 then ordL r z else cmpS p.2 p.1
def ford (f : Fil) (t : Tup) : Int := ordL [(f.a, t.a), (f.b, t.b), (f.c, t.c)] (if f.x then cmpG t.d t.e t.f f.d f.e f.f else 0)
/-- the filter with only what its prefix fixes -/
def fst1 (f : Fil) : Fil :=
  if f.a.toList.isEmpty then ⟨⟨#[]⟩, ⟨#[]⟩, ⟨#[]⟩, ⟨#[]⟩, ⟨#[]⟩, ⟨#[]⟩, false⟩
  else if f.b.toList.isEmpty then ⟨f.a, ⟨#[]⟩, ⟨#[]⟩, ⟨#[]⟩, ⟨#[]⟩, ⟨#[]⟩, false⟩
  else if f.c.toList.isEmpty then ⟨f.a, f.b, ⟨#[]⟩, ⟨#[]⟩, ⟨#[]⟩, ⟨#[]⟩, false⟩
  else if f.x then f else ⟨f.a, f.b, f.c, ⟨#[]⟩, ⟨#[]⟩, ⟨#[]⟩, false⟩
/-- the least tuple of them -/
def least (f : Fil) : Tup := ⟨(fst1 f).a, (fst1 f).b, (fst1 f).c, (fst1 f).d, (fst1 f).e, (fst1 f).f⟩

theorem cmpS_mono {a b p : ByteArray} (h : cmpS a b ≤ 0) : cmpS a p ≤ cmpS b p := by
  have r1 := cmpS_range a p
  have r2 := cmpS_range b p
  by_cases h1 : cmpS b p ≤ 0
  · have t := cmpS_trans h h1
    rcases r2 with h2 | h2 | h2
    · by_cases h3 : cmpS a p = 0
      · have := cmpS_zero h3; subst this; have := cmpS_anti a b; omega
      · omega
    · omega
    · omega
  · omega
theorem cmpG_mono {a b c d e f x y z : ByteArray} (h : cmpG a b c d e f ≤ 0) : cmpG a b c x y z ≤ cmpG d e f x y z := by
  have r1 := cmpG_range a b c x y z
  have r2 := cmpG_range d e f x y z
  by_cases h1 : cmpG d e f x y z ≤ 0
  · have t := cmpG_trans h h1
    by_cases h2 : cmpG d e f x y z = 0
    · omega
    · by_cases h3 : cmpG a b c x y z = 0
      · obtain ⟨rfl, rfl, rfl⟩ := cmpG_zero h3
        have := cmpG_anti a b c d e f
        omega
      · omega
  · omega
theorem ordL_range : ∀ (l : List (ByteArray × ByteArray)) (z : Int), -1 ≤ z → z ≤ 1 → -1 ≤ ordL l z ∧ ordL l z ≤ 1
  | [], z, h, k => ⟨h, k⟩
  | p :: r, z, h, k => by
    unfold ordL
    split
    · omega
    · split
      · exact ordL_range r z h k
      · have := cmpS_range p.2 p.1; omega
theorem ordL_mono : ∀ (l : List (ByteArray × ByteArray × ByteArray)) (z z' : Int), -1 ≤ z → z ≤ 1 → -1 ≤ z' → z' ≤ 1 →
    (lexS (l.map fun p => (p.2.1, p.2.2)) < 0 ∨ (lexS (l.map fun p => (p.2.1, p.2.2)) = 0 ∧ z ≤ z')) → ordL (l.map fun p => (p.1, p.2.1)) z ≤ ordL (l.map fun p => (p.1, p.2.2)) z'
  | [], z, z', _, _, _, _, h => by
    rcases h with h | h
    · exact absurd h (by simp [lexS])
    · exact h.2
  | (p, u, v) :: r, z, z', a, b, c, d, h => by
    have R1 := ordL_range (r.map fun p => (p.1, p.2.1)) z a b
    have R2 := ordL_range (r.map fun p => (p.1, p.2.2)) z' c d
    simp only [List.map_cons, lexS] at h
    simp only [List.map_cons, ordL]
    by_cases hp : p.toList.isEmpty = true
    · rw [if_pos hp, if_pos hp]; exact Int.le_refl _
    · rw [if_neg hp, if_neg hp]
      have ru := cmpS_range u v
      by_cases h0 : cmpS u v = 0
      · have := cmpS_zero h0; subst this
        rw [if_pos h0] at h
        by_cases h1 : cmpS u p = 0
        · rw [if_pos h1, if_pos h1]; exact ordL_mono r z z' a b c d h
        · rw [if_neg h1, if_neg h1]; exact Int.le_refl _
      · rw [if_neg h0] at h
        have hneg : cmpS u v < 0 := by omega
        have hm := cmpS_mono (p := p) (Int.le_of_lt hneg)
        have q1 := cmpS_range u p
        have q2 := cmpS_range v p
        have hno : ¬ (cmpS u p = 0 ∧ cmpS v p = 0) := fun ⟨h1, h2⟩ => by
          have e1 := cmpS_zero h1; have e2 := cmpS_zero h2
          subst e1; subst e2; exact h0 (cmpS_self _)
        split <;> split <;> omega
theorem sub_range (f : Fil) (t : Tup) : -1 ≤ (if f.x then cmpG t.d t.e t.f f.d f.e f.f else 0) ∧ (if f.x then cmpG t.d t.e t.f f.d f.e f.f else 0) ≤ (1 : Int) := by
  have := cmpG_range t.d t.e t.f f.d f.e f.f
  split <;> omega
theorem ford_range (f : Fil) (t : Tup) : -1 ≤ ford f t ∧ ford f t ≤ 1 := ordL_range _ _ (sub_range f t).1 (sub_range f t).2
theorem ford_mono (f : Fil) {x y : Tup} (h : cmpT x y ≤ 0) : ford f x ≤ ford f y := by
  refine ordL_mono [(f.a, x.a, y.a), (f.b, x.b, y.b), (f.c, x.c, y.c)] _ _ (sub_range f x).1 (sub_range f x).2 (sub_range f y).1 (sub_range f y).2 ?_
  show cmpG x.a x.b x.c y.a y.b y.c < 0 ∨ (cmpG x.a x.b x.c y.a y.b y.c = 0 ∧ _)
  by_cases h0 : cmpG x.a x.b x.c y.a y.b y.c = 0
  · right
    refine ⟨h0, ?_⟩
    rw [cmpT_z h0] at h
    cases f.x
    · exact Int.le_refl _
    · exact cmpG_mono h
  · rw [cmpT_n h0] at h; left; omega

theorem empty_of {s : ByteArray} (h : s.toList.isEmpty = true) : s = ⟨#[]⟩ := by
  rw [List.isEmpty_iff, ByteArray.toList_eq] at h
  cases s with | mk d => congr 1; exact Array.toList_inj.1 h
theorem emp : (⟨#[]⟩ : ByteArray).toList.isEmpty = true := by rw [ByteArray.toList_eq]; rfl
theorem ne_empty {s : ByteArray} (h : s.toList.isEmpty = false) : s ≠ ⟨#[]⟩ := fun e => by subst e; rw [emp] at h; cases h
theorem cmpS_empty (u : ByteArray) : 0 ≤ cmpS u ⟨#[]⟩ := by
  unfold cmpS
  match u.data.toList with
  | [] => decide
  | _ :: _ => exact (by decide : (0:Int) ≤ 1)
theorem cmpS_eqz {u p : ByteArray} : cmpS u p = 0 ↔ p = u := ⟨fun h => (cmpS_zero h).symm, fun h => by rw [h]; exact cmpS_self u⟩
theorem cmpG_eqz {a b c d e f : ByteArray} : cmpG a b c d e f = 0 ↔ (d = a ∧ e = b ∧ f = c) :=
  ⟨fun h => by obtain ⟨h1, h2, h3⟩ := cmpG_zero h; exact ⟨h1.symm, h2.symm, h3.symm⟩, fun ⟨h1, h2, h3⟩ => by rw [h1, h2, h3]; exact cmpG_self a b c⟩
theorem cmpT_lex (x y : Tup) : cmpT x y = lexS [(x.a, y.a), (x.b, y.b), (x.c, y.c), (x.d, y.d), (x.e, y.e), (x.f, y.f)] := by
  unfold cmpT cmpG
  simp only [lexS]
  by_cases h1 : cmpS x.a y.a = 0 <;> by_cases h2 : cmpS x.b y.b = 0 <;> by_cases h3 : cmpS x.c y.c = 0 <;> simp [h1, h2, h3]
theorem lex_empty : ∀ l : List ByteArray, 0 ≤ lexS (l.map fun u => (u, ⟨#[]⟩))
  | [] => Int.le_refl _
  | u :: r => by
    simp only [List.map_cons, lexS]
    split
    · exact lex_empty r
    · exact cmpS_empty u

theorem first_takes (f : Fil) (t : Tup) : takes (fst1 f) t = decide (ford f t = 0) := by
  obtain ⟨fa, fb, fc, fd, fe, ff, fx⟩ := f
  unfold fst1 ford
  simp only [ordL]
  cases h1 : fa.toList.isEmpty
  · cases h2 : fb.toList.isEmpty
    · cases h3 : fc.toList.isEmpty
      · cases fx
        · simp only [if_neg Bool.false_ne_true, takes, okF, h1, h2, h3, Bool.false_or, Bool.not_false, Bool.true_or, Bool.and_true]
          by_cases e1 : cmpS t.a fa = 0
          · by_cases e2 : cmpS t.b fb = 0
            · have q1 := cmpS_eqz.1 e1; have q2 := cmpS_eqz.1 e2; subst q1; subst q2; simp [cmpS_self, cmpS_eqz]
            · have := mt cmpS_eqz.2 e2; simp [e1, e2, this]
          · have := mt cmpS_eqz.2 e1; simp [e1, this]
        · simp only [if_neg Bool.false_ne_true, if_pos, takes, okF, h1, h2, h3, Bool.false_or, Bool.not_true]
          by_cases e1 : cmpS t.a fa = 0
          · by_cases e2 : cmpS t.b fb = 0
            · by_cases e3 : cmpS t.c fc = 0
              · have q1 := cmpS_eqz.1 e1; have q2 := cmpS_eqz.1 e2; have q3 := cmpS_eqz.1 e3; subst q1; subst q2; subst q3; simp [cmpS_self, cmpG_eqz]
              · have := mt cmpS_eqz.2 e3; simp [e1, e2, e3, this]
            · have := mt cmpS_eqz.2 e2; simp [e1, e2, this]
          · have := mt cmpS_eqz.2 e1; simp [e1, this]
      · simp only [if_neg Bool.false_ne_true, if_pos, takes, okF, h1, h2, emp, Bool.false_or, Bool.true_or, Bool.and_true, Bool.not_false]
        by_cases e1 : cmpS t.a fa = 0
        · by_cases e2 : cmpS t.b fb = 0
          · have q1 := cmpS_eqz.1 e1; have q2 := cmpS_eqz.1 e2; subst q1; subst q2; simp [cmpS_self]
          · have := mt cmpS_eqz.2 e2; simp [e1, e2, this]
        · have := mt cmpS_eqz.2 e1; simp [e1, this]
    · simp only [if_neg Bool.false_ne_true, if_pos, takes, okF, h1, emp, Bool.false_or, Bool.true_or, Bool.and_true, Bool.not_false]
      by_cases e1 : cmpS t.a fa = 0
      · have q1 := cmpS_eqz.1 e1; subst q1; simp [cmpS_self]
      · have := mt cmpS_eqz.2 e1; simp [e1, this]
  · simp only [if_pos, takes, okF, emp, Bool.true_or, Bool.and_true, Bool.not_false]
    simp
theorem takes_ford {f : Fil} {t : Tup} (h : takes f t = true) : ford f t = 0 := by
  unfold takes okF at h
  simp only [Bool.and_eq_true, Bool.or_eq_true, decide_eq_true_eq, Bool.not_eq_true'] at h
  obtain ⟨⟨⟨h1, h2⟩, h3⟩, h4⟩ := h
  unfold ford; simp only [ordL]
  cases k1 : f.a.toList.isEmpty
  · have e1 : f.a = t.a := h1.resolve_left (by rw [k1]; decide)
    rw [if_neg Bool.false_ne_true, if_pos (cmpS_eqz.2 e1)]
    cases k2 : f.b.toList.isEmpty
    · have e2 : f.b = t.b := h2.resolve_left (by rw [k2]; decide)
      rw [if_neg Bool.false_ne_true, if_pos (cmpS_eqz.2 e2)]
      cases k3 : f.c.toList.isEmpty
      · have e3 : f.c = t.c := h3.resolve_left (by rw [k3]; decide)
        rw [if_neg Bool.false_ne_true, if_pos (cmpS_eqz.2 e3)]
        cases k4 : f.x
        · rfl
        · exact cmpG_eqz.2 (h4.resolve_left (by rw [k4]; decide))
      · rfl
    · rfl
  · rfl
theorem least_lt (f : Fil) (t : Tup) : cmpT t (least f) < 0 ↔ ford f t < 0 := by
  obtain ⟨fa, fb, fc, fd, fe, ff, fx⟩ := f
  rw [cmpT_lex]
  unfold least fst1 ford
  simp only [ordL]
  have E6 := lex_empty [t.a, t.b, t.c, t.d, t.e, t.f]
  have E5 := lex_empty [t.b, t.c, t.d, t.e, t.f]
  have E4 := lex_empty [t.c, t.d, t.e, t.f]
  have E3 := lex_empty [t.d, t.e, t.f]
  simp only [List.map_cons, List.map_nil] at E6 E5 E4 E3
  cases h1 : fa.toList.isEmpty
  · cases h2 : fb.toList.isEmpty
    · cases h3 : fc.toList.isEmpty
      · cases fx
        · simp only [if_neg Bool.false_ne_true]
          rw [lexS]; dsimp only
          by_cases e1 : cmpS t.a fa = 0
          · rw [if_pos e1, if_pos e1, lexS]; dsimp only
            by_cases e2 : cmpS t.b fb = 0
            · rw [if_pos e2, if_pos e2, lexS]; dsimp only
              by_cases e3 : cmpS t.c fc = 0
              · rw [if_pos e3, if_pos e3]; constructor <;> intro <;> omega
              · rw [if_neg e3, if_neg e3]
            · rw [if_neg e2, if_neg e2]
          · rw [if_neg e1, if_neg e1]
        · simp only [if_neg Bool.false_ne_true, if_pos]
          rw [lexS]; dsimp only
          by_cases e1 : cmpS t.a fa = 0
          · rw [if_pos e1, if_pos e1, lexS]; dsimp only
            by_cases e2 : cmpS t.b fb = 0
            · rw [if_pos e2, if_pos e2, lexS]; dsimp only
              by_cases e3 : cmpS t.c fc = 0
              · rw [if_pos e3, if_pos e3]; rfl
              · rw [if_neg e3, if_neg e3]
            · rw [if_neg e2, if_neg e2]
          · rw [if_neg e1, if_neg e1]
      · simp only [if_neg Bool.false_ne_true, if_pos]
        rw [lexS]; dsimp only
        by_cases e1 : cmpS t.a fa = 0
        · rw [if_pos e1, if_pos e1, lexS]; dsimp only
          by_cases e2 : cmpS t.b fb = 0
          · rw [if_pos e2, if_pos e2]; constructor <;> intro <;> omega
          · rw [if_neg e2, if_neg e2]
        · rw [if_neg e1, if_neg e1]
    · simp only [if_neg Bool.false_ne_true, if_pos]
      rw [lexS]; dsimp only
      by_cases e1 : cmpS t.a fa = 0
      · rw [if_pos e1, if_pos e1]; constructor <;> intro <;> omega
      · rw [if_neg e1, if_neg e1]
  · simp only [if_pos]; constructor <;> intro <;> omega

/-- counting what holds of a beginning -/
theorem cnt_lt {α : Type} (p : α → Bool) : ∀ {l : List α}, l.Pairwise (fun x y => p y = true → p x = true) → ∀ (i : Nat) (h : i < l.length), p l[i] = true ↔ i < l.countP p
  | [], _, i, h => absurd h (by simp)
  | x :: r, hp, i, h => by
    obtain ⟨h1, h2⟩ := List.pairwise_cons.1 hp
    by_cases hx : p x = true
    · rw [List.countP_cons_of_pos hx]
      match i, h with
      | 0, _ => simp [hx]
      | i + 1, h => rw [List.getElem_cons_succ, cnt_lt p h2 i (by simpa using h)]; omega
    · have hz : r.countP p = 0 := List.countP_eq_zero.2 fun y hy e => hx (h1 y hy e)
      rw [List.countP_cons_of_neg hx, hz]
      match i, h with
      | 0, _ => simp [hx]
      | i + 1, h =>
        rw [List.getElem_cons_succ]
        constructor
        · intro e; exact absurd (h1 _ (List.getElem_mem _) e) hx
        · intro e; omega
/-- where the span begins and ends -/
def lo (f : Fil) (l : List Tup) : Nat := l.countP fun t => decide (ford f t < 0)
def hi (f : Fil) (l : List Tup) : Nat := l.countP fun t => decide (ford f t < 1)
theorem lo_le (f : Fil) (l : List Tup) : lo f l ≤ hi f l := List.countP_mono_left fun t _ h => by simp at h ⊢; omega
theorem hi_le (f : Fil) (l : List Tup) : hi f l ≤ l.length := List.countP_le_length
theorem lo_lt {l : List Tup} (hl : Asc cmpT l) (f : Fil) (i : Nat) (h : i < l.length) : ford f l[i] < 0 ↔ i < lo f l := by
  have := cnt_lt (fun t => decide (ford f t < 0)) (l := l) (hl.imp fun {x y} hxy e => by simp at e ⊢; have := ford_mono f (Int.le_of_lt hxy); omega) i h
  simpa [lo] using this
theorem hi_lt {l : List Tup} (hl : Asc cmpT l) (f : Fil) (i : Nat) (h : i < l.length) : ford f l[i] < 1 ↔ i < hi f l := by
  have := cnt_lt (fun t => decide (ford f t < 1)) (l := l) (hl.imp fun {x y} hxy e => by simp at e ⊢; have := ford_mono f (Int.le_of_lt hxy); omega) i h
  simpa [hi] using this
theorem in_span {l : List Tup} (hl : Asc cmpT l) (f : Fil) (i : Nat) (h : i < l.length) : takes (fst1 f) l[i] = true ↔ lo f l ≤ i ∧ i < hi f l := by
  rw [first_takes, decide_eq_true_eq, ← hi_lt hl f i h]
  have h1 := lo_lt hl f i h
  have := ford_range f l[i]
  constructor
  · intro e; exact ⟨Nat.le_of_not_lt fun k => by have := h1.2 k; omega, by omega⟩
  · intro ⟨h2, h3⟩
    have : ¬ ford f l[i] < 0 := fun k => by have := h1.1 k; omega
    omega
/-- the tuples of the span -/
def cutL (f : Fil) (l : List Tup) : List Tup := (l.take (hi f l)).drop (lo f l)
theorem sel_cut {l : List Tup} (hl : Asc cmpT l) (f : Fil) : (cutL f l).filter (takes f) = l.filter (takes f) := by
  have h1 : ∀ m : List Tup, (∀ t ∈ m, ¬ takes f t = true) → m.filter (takes f) = [] := fun m hm => List.filter_eq_nil_iff.2 hm
  have e : l = (l.take (hi f l)).take (lo f l) ++ cutL f l ++ l.drop (hi f l) := by
    rw [cutL, List.take_append_drop, List.take_append_drop]
  conv => rhs; rw [e]
  rw [List.filter_append, List.filter_append, h1 ((l.take (hi f l)).take (lo f l)) ?_, h1 (l.drop (hi f l)) ?_, List.nil_append, List.append_nil]
  · intro t ht hk
    obtain ⟨i, hi', rfl⟩ := List.getElem_of_mem ht
    rw [List.getElem_drop] at hk
    have hlt : hi f l + i < l.length := by simp at hi'; omega
    have := (hi_lt hl f _ hlt).1 (by rw [takes_ford hk]; decide)
    omega
  · intro t ht hk
    obtain ⟨i, hi', rfl⟩ := List.getElem_of_mem ht
    rw [List.getElem_take, List.getElem_take] at hk
    have hlt : i < lo f l := by simp at hi'; omega
    have := (lo_lt hl f i (by have := lo_le f l; have := hi_le f l; omega)).2 hlt
    rw [takes_ford hk] at this
    omega
theorem cut_asc {l : List Tup} (hl : Asc cmpT l) (f : Fil) : Asc cmpT (cutL f l) := (hl.sublist (List.take_sublist _ _)).sublist (List.drop_sublist _ _)
theorem cut_len (f : Fil) (l : List Tup) : (cutL f l).length = hi f l - lo f l := by
  have := hi_le f l
  rw [cutL, List.length_drop, List.length_take]; omega
theorem one_most {l : List Tup} (hl : Asc cmpT l) {f : Fil} (hp : fpre f = 4) : hi f l ≤ lo f l + 1 := by
  refine Nat.le_of_not_lt fun h => ?_
  have hh := hi_le f l
  have h0 : lo f l < l.length := by omega
  have h1 : lo f l + 1 < l.length := by omega
  have t0 := (in_span hl f _ h0).2 ⟨Nat.le_refl _, by omega⟩
  have t1 := (in_span hl f _ h1).2 ⟨by omega, by omega⟩
  have key : ∀ t, takes (fst1 f) t = true → t = ⟨f.a, f.b, f.c, f.d, f.e, f.f⟩ := fun t ht => by
    unfold fpre at hp
    split at hp
    · omega
    · split at hp
      · omega
      · split at hp
        · omega
        · split at hp
          · rename_i k1 k2 k3 k4
            unfold fst1 at ht
            rw [if_neg k1, if_neg k2, if_neg k3, if_pos k4] at ht
            simp only [takes, okF, Bool.and_eq_true, Bool.or_eq_true, decide_eq_true_eq, Bool.not_eq_true'] at ht
            obtain ⟨⟨⟨e1, e2⟩, e3⟩, e4⟩ := ht
            have e1 := e1.resolve_left k1
            have e2 := e2.resolve_left k2
            have e3 := e3.resolve_left k3
            have e4 := e4.resolve_left (by rw [k4]; decide)
            obtain ⟨e4, e5, e6⟩ := e4
            cases t; simp_all
          · omega
  have := List.pairwise_iff_getElem.1 hl (lo f l) (lo f l + 1) h0 h1 (by omega)
  rw [key _ t0, key _ t1, tot.self] at this
  omega

end Go.Proofs.Ytgfgfggoofjeeaa
