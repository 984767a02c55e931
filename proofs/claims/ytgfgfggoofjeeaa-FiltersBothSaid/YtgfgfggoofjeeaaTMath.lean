/-
  PLAIN MATHEMATICS: lists in a total order, without the program: sorting, one of each, searching, and putting two lists together. Own work.
-/
import Derived.WalkKit
namespace Go.Proofs.Ytgfgfggoofjeeaa

/-- an order that is total, and 0 for equal ones alone -/
structure Tot {α : Type} (cmp : α → α → Int) : Prop where
  anti : ∀ x y, cmp y x = -cmp x y
  trans : ∀ x y z, cmp x y ≤ 0 → cmp y z ≤ 0 → cmp x z ≤ 0
  zero : ∀ x y, cmp x y = 0 → x = y

section
variable {α : Type} {cmp : α → α → Int}
theorem Tot.self (T : Tot cmp) (x : α) : cmp x x = 0 := by have := T.anti x x; omega
theorem Tot.lt_trans (T : Tot cmp) {x y z : α} (h : cmp x y < 0) (k : cmp y z < 0) : cmp x z < 0 := by
  have h1 := T.trans x y z (by omega) (by omega)
  rcases Int.lt_or_eq_of_le h1 with h2 | h2
  · exact h2
  · have e := T.zero x z h2
    subst e
    have := T.anti x y
    omega
theorem Tot.lt_le_trans (T : Tot cmp) {x y z : α} (h : cmp x y < 0) (k : cmp y z ≤ 0) : cmp x z < 0 := by
  rcases Int.lt_or_eq_of_le k with h2 | h2
  · exact T.lt_trans h h2
  · rw [← T.zero y z h2]; exact h
theorem Tot.le_lt_trans (T : Tot cmp) {x y z : α} (h : cmp x y ≤ 0) (k : cmp y z < 0) : cmp x z < 0 := by
  rcases Int.lt_or_eq_of_le h with h2 | h2
  · exact T.lt_trans h2 k
  · rw [T.zero x y h2]; exact k
theorem Tot.ne (T : Tot cmp) {x y : α} (h : cmp x y < 0) : x ≠ y := fun e => by subst e; have := T.self x; omega

/-- strictly ascending -/
def Asc (cmp : α → α → Int) (l : List α) : Prop := l.Pairwise (fun x y => cmp x y < 0)

theorem Asc.uniq (T : Tot cmp) : ∀ {l m : List α}, Asc cmp l → Asc cmp m → (∀ t, t ∈ l ↔ t ∈ m) → l = m
  | [], [], _, _, _ => rfl
  | [], y :: m, _, _, h => by have := (h y).2 List.mem_cons_self; cases this
  | x :: l, [], _, _, h => by have := (h x).1 List.mem_cons_self; cases this
  | x :: l, y :: m, h1, h2, h => by
    have a1 := List.pairwise_cons.1 h1
    have a2 := List.pairwise_cons.1 h2
    have e : x = y := by
      rcases List.mem_cons.1 ((h x).1 List.mem_cons_self) with e | hx
      · exact e
      · rcases List.mem_cons.1 ((h y).2 List.mem_cons_self) with e | hy
        · exact e.symm
        · have p1 := a1.1 y hy
          have p2 := a2.1 x hx
          have := T.anti x y
          omega
    subst e
    have : l = m := Asc.uniq T a1.2 a2.2 fun t => by
      constructor
      · intro ht
        rcases List.mem_cons.1 ((h t).1 (List.mem_cons_of_mem _ ht)) with e | hm
        · subst e; exact absurd rfl (T.ne (a1.1 _ ht))
        · exact hm
      · intro ht
        rcases List.mem_cons.1 ((h t).2 (List.mem_cons_of_mem _ ht)) with e | hm
        · subst e; exact absurd rfl (T.ne (a2.1 _ ht))
        · exact hm
    rw [this]

/-- put in ahead of the first greater one -/
def ins (cmp : α → α → Int) (x : α) : List α → List α
  | [] => [x]
  | y :: r => if cmp x y < 0 then x :: y :: r else y :: ins cmp x r
theorem mem_ins (cmp : α → α → Int) (x t : α) : ∀ l : List α, t ∈ ins cmp x l ↔ t = x ∨ t ∈ l
  | [] => by simp [ins]
  | y :: r => by
    unfold ins
    split
    · simp
    · simp [mem_ins cmp x t r]; constructor
      · rintro (h | h | h) <;> simp [h]
      · rintro (h | h | h) <;> simp [h]
theorem asc_ins (T : Tot cmp) (x : α) : ∀ l : List α, Asc cmp l → x ∉ l → Asc cmp (ins cmp x l)
  | [], _, _ => by simp [ins, Asc]
  | y :: r, h, hx => by
    have a := List.pairwise_cons.1 h
    unfold ins
    split
    · rename_i hlt
      refine List.pairwise_cons.2 ⟨fun z hz => ?_, h⟩
      rcases List.mem_cons.1 hz with e | hz
      · subst e; exact hlt
      · exact T.lt_trans hlt (a.1 z hz)
    · rename_i hge
      refine List.pairwise_cons.2 ⟨fun z hz => ?_, asc_ins T x r a.2 (fun hm => hx (List.mem_cons_of_mem _ hm))⟩
      rcases (mem_ins cmp x z r).1 hz with e | hz
      · subst e
        have hne : cmp z y ≠ 0 := fun e => hx (by rw [T.zero _ _ e]; exact List.mem_cons_self)
        have := T.anti z y
        omega
      · exact a.1 z hz

section
variable [DecidableEq α]
/-- one more tuple for a sorted list -/
def put1 (cmp : α → α → Int) (out : List α) (x : α) : List α := if x ∈ out then out else ins cmp x out
/-- the sorted list of some -/
def srt (cmp : α → α → Int) (l : List α) : List α := l.foldl (put1 cmp) []
theorem put1_mem (x t : α) (out : List α) : t ∈ put1 cmp out x ↔ t = x ∨ t ∈ out := by
  unfold put1
  split
  · rename_i h
    constructor
    · exact .inr
    · rintro (rfl | h')
      · exact h
      · exact h'
  · exact mem_ins cmp x t out
theorem put1_asc (T : Tot cmp) (x : α) (out : List α) (h : Asc cmp out) : Asc cmp (put1 cmp out x) := by
  unfold put1
  split
  · exact h
  · rename_i hx; exact asc_ins T x out h hx
theorem foldl_put1 (T : Tot cmp) : ∀ (l out : List α), Asc cmp out → Asc cmp (l.foldl (put1 cmp) out) ∧ ∀ t, t ∈ l.foldl (put1 cmp) out ↔ t ∈ l ∨ t ∈ out
  | [], out, h => ⟨h, fun t => by simp⟩
  | x :: l, out, h => by
    have r := foldl_put1 T l (put1 cmp out x) (put1_asc T x out h)
    refine ⟨r.1, fun t => ?_⟩
    rw [List.foldl_cons, r.2 t, put1_mem, List.mem_cons]
    constructor
    · rintro (h | h | h) <;> simp [h]
    · rintro ((h | h) | h) <;> simp [h]
theorem asc_srt (T : Tot cmp) (l : List α) : Asc cmp (srt cmp l) := (foldl_put1 T l [] List.Pairwise.nil).1
theorem mem_srt (T : Tot cmp) (l : List α) (t : α) : t ∈ srt cmp l ↔ t ∈ l := by
  rw [srt, (foldl_put1 T l [] List.Pairwise.nil).2 t]; simp
theorem srt_of (T : Tot cmp) {l m : List α} (h : Asc cmp m) (hm : ∀ t, t ∈ m ↔ t ∈ l) : m = srt cmp l :=
  Asc.uniq T h (asc_srt T l) fun t => by rw [hm, mem_srt T]
theorem srt_self (T : Tot cmp) {l : List α} (h : Asc cmp l) : srt cmp l = l := (srt_of T h fun _ => Iff.rfl).symm
omit [DecidableEq α] in
theorem length_ins (x : α) : ∀ l : List α, (ins cmp x l).length = l.length + 1
  | [] => rfl
  | y :: r => by unfold ins; split <;> simp [length_ins x r]
theorem length_foldl_put1 : ∀ (l out : List α), (l.foldl (put1 cmp) out).length ≤ l.length + out.length
  | [], out => by simp
  | x :: l, out => by
    have h := length_foldl_put1 l (put1 cmp out x)
    have h2 : (put1 cmp out x).length ≤ out.length + 1 := by
      unfold put1; split
      · omega
      · rw [length_ins]; omega
    rw [List.foldl_cons, List.length_cons]; omega
theorem length_srt (l : List α) : (srt cmp l).length ≤ l.length := by
  have := length_foldl_put1 (cmp := cmp) l []
  simpa [srt] using this
end

/-- does a list ascend, looked at one after the other -/
def isB (cmp : α → α → Int) : List α → Bool
  | [] => true
  | [_] => true
  | x :: y :: r => decide (cmp x y < 0) && isB cmp (y :: r)
theorem isB_asc (T : Tot cmp) : ∀ l : List α, isB cmp l = true ↔ Asc cmp l
  | [] => by simp [isB, Asc]
  | [x] => by simp [isB, Asc]
  | x :: y :: r => by
    rw [isB, Bool.and_eq_true, isB_asc T (y :: r), decide_eq_true_eq]
    constructor
    · rintro ⟨h, k⟩
      refine List.pairwise_cons.2 ⟨fun z hz => ?_, k⟩
      rcases List.mem_cons.1 hz with e | hz
      · subst e; exact h
      · exact T.lt_trans h ((List.pairwise_cons.1 k).1 z hz)
    · intro h
      have a := List.pairwise_cons.1 h
      exact ⟨a.1 y List.mem_cons_self, a.2⟩
theorem isB_take (cmp : α → α → Int) : ∀ (l : List α) (k : Nat) (h : k + 1 < l.length), isB cmp (l.take (k + 1)) = true → isB cmp (l.take (k + 2)) = decide (cmp l[k] l[k + 1] < 0)
  | [x], k, h, _ => by simp at h
  | x :: y :: r, 0, _, _ => by simp [isB]
  | x :: y :: r, k + 1, h, hp => by
    rw [List.take_succ_cons, List.take_succ_cons, isB] at hp
    rw [List.take_succ_cons, List.take_succ_cons, isB]
    rw [Bool.and_eq_true] at hp
    have := isB_take cmp (y :: r) k (by simpa using h) (by rw [List.take_succ_cons]; exact hp.2)
    rw [List.take_succ_cons] at this
    rw [hp.1, this]; simp
theorem isB_take_false (cmp : α → α → Int) : ∀ (l : List α) (k : Nat), isB cmp (l.take k) = false → isB cmp l = false
  | [], k, h => by simp [isB] at h
  | [x], k, h => by cases k <;> simp [isB] at h
  | x :: y :: r, 0, h => by simp [isB] at h
  | x :: y :: r, 1, h => by simp [isB] at h
  | x :: y :: r, k + 2, h => by
    rw [List.take_succ_cons, List.take_succ_cons, isB, ← List.take_succ_cons] at h
    rw [isB]
    rcases Bool.and_eq_false_iff.1 h with h | h
    · rw [h]; rfl
    · rw [isB_take_false cmp (y :: r) (k + 1) h]; simp
/-- a place where a list does not ascend -/
theorem isB_false (T : Tot cmp) {l : List α} {i k : Nat} (hi : i < l.length) (hk : k < i) (h : ¬ cmp (l[k]'(by omega)) l[i] < 0) : isB cmp l = false := by
  cases e : isB cmp l
  · rfl
  · exact absurd (List.pairwise_iff_getElem.1 ((isB_asc T l).1 e) k i (by omega) hi hk) h
theorem isB_all (T : Tot cmp) {l : List α} (h : ∀ i k, (hi : i < l.length) → (hk : k < i) → cmp (l[k]'(by omega)) l[i] < 0) : isB cmp l = true :=
  (isB_asc T l).2 (List.pairwise_iff_getElem.2 fun k i _ hi hk => h i k hi hk)

/-- one of each of those that stand side by side -/
def cpt [DecidableEq α] : List α → List α
  | [] => []
  | [x] => [x]
  | x :: y :: r => if x = y then cpt (y :: r) else x :: cpt (y :: r)
theorem mem_cpt [DecidableEq α] (t : α) : ∀ l : List α, t ∈ cpt l ↔ t ∈ l
  | [] => Iff.rfl
  | [x] => Iff.rfl
  | x :: y :: r => by
    unfold cpt
    split
    · rename_i e; subst e; rw [mem_cpt t (x :: r)]; simp
    · rw [List.mem_cons, mem_cpt t (y :: r)]; simp
theorem asc_cpt [DecidableEq α] (T : Tot cmp) : ∀ l : List α, l.Pairwise (fun x y => cmp x y ≤ 0) → Asc cmp (cpt l)
  | [], _ => List.Pairwise.nil
  | [x], _ => by simp [cpt, Asc]
  | x :: y :: r, h => by
    have a := List.pairwise_cons.1 h
    unfold cpt
    split
    · exact asc_cpt T (y :: r) a.2
    · rename_i hne
      refine List.pairwise_cons.2 ⟨fun z hz => ?_, asc_cpt T (y :: r) a.2⟩
      have hz' := (mem_cpt z (y :: r)).1 hz
      have hxy : cmp x y < 0 := by
        rcases Int.lt_or_eq_of_le (a.1 y List.mem_cons_self) with h1 | h1
        · exact h1
        · exact absurd (T.zero x y h1) hne
      rcases List.mem_cons.1 hz' with e | hz'
      · subst e; exact hxy
      · exact T.lt_le_trans hxy ((List.pairwise_cons.1 a.2).1 z hz')

/-- two lists put together: of each the lists that have it -/
def mrg (cmp : α → α → Int) : List α → List α → List (α × Bool × Bool)
  | [], [] => []
  | x :: a, [] => (x, true, false) :: mrg cmp a []
  | [], y :: b => (y, false, true) :: mrg cmp [] b
  | x :: a, y :: b => if cmp x y < 0 then (x, true, false) :: mrg cmp a (y :: b) else if cmp x y = 0 then (x, true, true) :: mrg cmp a b else (y, false, true) :: mrg cmp (x :: a) b
termination_by a b => a.length + b.length
decreasing_by all_goals simp_wf; all_goals omega
theorem mrg_mem (T : Tot cmp) : ∀ a b : List α, ∀ t, (∃ p q, (t, p, q) ∈ mrg cmp a b) ↔ t ∈ a ∨ t ∈ b
  | [], [], t => by simp [mrg]
  | x :: a, [], t => by
    have ih := mrg_mem T a [] t
    rw [mrg]
    constructor
    · rintro ⟨p, q, h⟩
      rcases List.mem_cons.1 h with h | h
      · injection h with h1; subst h1; exact .inl List.mem_cons_self
      · rcases ih.1 ⟨p, q, h⟩ with h | h
        · exact .inl (List.mem_cons_of_mem _ h)
        · exact .inr h
    · rintro (h | h)
      · rcases List.mem_cons.1 h with h | h
        · subst h; exact ⟨_, _, List.mem_cons_self⟩
        · obtain ⟨p, q, h⟩ := ih.2 (.inl h); exact ⟨p, q, List.mem_cons_of_mem _ h⟩
      · cases h
  | [], y :: b, t => by
    have ih := mrg_mem T [] b t
    rw [mrg]
    constructor
    · rintro ⟨p, q, h⟩
      rcases List.mem_cons.1 h with h | h
      · injection h with h1; subst h1; exact .inr List.mem_cons_self
      · rcases ih.1 ⟨p, q, h⟩ with h | h
        · exact .inl h
        · exact .inr (List.mem_cons_of_mem _ h)
    · rintro (h | h)
      · cases h
      · rcases List.mem_cons.1 h with h | h
        · subst h; exact ⟨_, _, List.mem_cons_self⟩
        · obtain ⟨p, q, h⟩ := ih.2 (.inr h); exact ⟨p, q, List.mem_cons_of_mem _ h⟩
  | x :: a, y :: b, t => by
    rw [mrg]
    split
    · have ih := mrg_mem T a (y :: b) t
      constructor
      · rintro ⟨p, q, h⟩
        rcases List.mem_cons.1 h with h | h
        · injection h with h1; subst h1; exact .inl List.mem_cons_self
        · rcases ih.1 ⟨p, q, h⟩ with h | h
          · exact .inl (List.mem_cons_of_mem _ h)
          · exact .inr h
      · rintro (h | h)
        · rcases List.mem_cons.1 h with h | h
          · subst h; exact ⟨_, _, List.mem_cons_self⟩
          · obtain ⟨p, q, h⟩ := ih.2 (.inl h); exact ⟨p, q, List.mem_cons_of_mem _ h⟩
        · obtain ⟨p, q, h⟩ := ih.2 (.inr h); exact ⟨p, q, List.mem_cons_of_mem _ h⟩
    · split
      · rename_i _ hz
        have e := T.zero _ _ hz
        subst e
        have ih := mrg_mem T a b t
        constructor
        · rintro ⟨p, q, h⟩
          rcases List.mem_cons.1 h with h | h
          · injection h with h1; subst h1; exact .inl List.mem_cons_self
          · rcases ih.1 ⟨p, q, h⟩ with h | h
            · exact .inl (List.mem_cons_of_mem _ h)
            · exact .inr (List.mem_cons_of_mem _ h)
        · rintro (h | h)
          all_goals
            rcases List.mem_cons.1 h with h | h
            · subst h; exact ⟨_, _, List.mem_cons_self⟩
            · obtain ⟨p, q, h⟩ := ih.2 (by first | exact .inl h | exact .inr h); exact ⟨p, q, List.mem_cons_of_mem _ h⟩
      · have ih := mrg_mem T (x :: a) b t
        constructor
        · rintro ⟨p, q, h⟩
          rcases List.mem_cons.1 h with h | h
          · injection h with h1; subst h1; exact .inr List.mem_cons_self
          · rcases ih.1 ⟨p, q, h⟩ with h | h
            · exact .inl h
            · exact .inr (List.mem_cons_of_mem _ h)
        · rintro (h | h)
          · obtain ⟨p, q, h⟩ := ih.2 (.inl h); exact ⟨p, q, List.mem_cons_of_mem _ h⟩
          · rcases List.mem_cons.1 h with h | h
            · subst h; exact ⟨_, _, List.mem_cons_self⟩
            · obtain ⟨p, q, h⟩ := ih.2 (.inr h); exact ⟨p, q, List.mem_cons_of_mem _ h⟩
termination_by a b => a.length + b.length
decreasing_by all_goals simp_wf; all_goals omega

theorem not_mem_of_lt (T : Tot cmp) {x : α} {l : List α} (h : ∀ y ∈ l, cmp x y < 0) : x ∉ l := fun hx => by have := h x hx; have := T.self x; omega
/-- the marks tell the lists, and the whole ascends -/
theorem mrg_flags (T : Tot cmp) : ∀ a b : List α, Asc cmp a → Asc cmp b → (∀ t p q, (t, p, q) ∈ mrg cmp a b → (p = true ↔ t ∈ a) ∧ (q = true ↔ t ∈ b)) ∧ (mrg cmp a b).Pairwise (fun x y => cmp x.1 y.1 < 0)
  | [], [], _, _ => by rw [mrg]; exact ⟨by simp, List.Pairwise.nil⟩
  | x :: a, [], ha, hb => by
    have a1 := List.pairwise_cons.1 ha
    have ih := mrg_flags T a [] a1.2 hb
    rw [mrg]
    refine ⟨fun t p q h => ?_, List.pairwise_cons.2 ⟨fun z hz => ?_, ih.2⟩⟩
    · rcases List.mem_cons.1 h with h | h
      · injection h with h1 h2; injection h2 with h2 h3; subst h1; subst h2; subst h3; simp
      · have i := ih.1 t p q h
        have hm := (mrg_mem T a [] t).1 ⟨p, q, h⟩
        simp at hm
        refine ⟨⟨fun _ => List.mem_cons_of_mem _ hm, fun _ => i.1.2 hm⟩, i.2⟩
    · obtain ⟨t, p, q⟩ := z
      have hm := (mrg_mem T a [] t).1 ⟨p, q, hz⟩
      simp at hm
      exact a1.1 t hm
  | [], y :: b, ha, hb => by
    have b1 := List.pairwise_cons.1 hb
    have ih := mrg_flags T [] b ha b1.2
    rw [mrg]
    refine ⟨fun t p q h => ?_, List.pairwise_cons.2 ⟨fun z hz => ?_, ih.2⟩⟩
    · rcases List.mem_cons.1 h with h | h
      · injection h with h1 h2; injection h2 with h2 h3; subst h1; subst h2; subst h3; simp
      · have i := ih.1 t p q h
        have hm := (mrg_mem T [] b t).1 ⟨p, q, h⟩
        simp at hm
        refine ⟨i.1, ⟨fun _ => List.mem_cons_of_mem _ hm, fun _ => i.2.2 hm⟩⟩
    · obtain ⟨t, p, q⟩ := z
      have hm := (mrg_mem T [] b t).1 ⟨p, q, hz⟩
      simp at hm
      exact b1.1 t hm
  | x :: a, y :: b, ha, hb => by
    have a1 := List.pairwise_cons.1 ha
    have b1 := List.pairwise_cons.1 hb
    rw [mrg]
    split
    · rename_i hlt
      have ih := mrg_flags T a (y :: b) a1.2 hb
      have hxb : ∀ z ∈ y :: b, cmp x z < 0 := fun z hz => by
        rcases List.mem_cons.1 hz with e | hz
        · subst e; exact hlt
        · exact T.lt_trans hlt (b1.1 z hz)
      have hrest : ∀ z ∈ mrg cmp a (y :: b), cmp x z.1 < 0 := fun z hz => by
        obtain ⟨t, p, q⟩ := z
        rcases (mrg_mem T a (y :: b) t).1 ⟨p, q, hz⟩ with h | h
        · exact a1.1 t h
        · exact hxb t h
      refine ⟨fun t p q h => ?_, List.pairwise_cons.2 ⟨hrest, ih.2⟩⟩
      rcases List.mem_cons.1 h with h | h
      · injection h with h1 h2; injection h2 with h2 h3; subst h1; subst h2; subst h3
        exact ⟨by simp, by simpa using not_mem_of_lt T hxb⟩
      · have i := ih.1 t p q h
        have hne := T.ne (hrest _ h)
        refine ⟨⟨fun hp => List.mem_cons_of_mem _ (i.1.1 hp), fun hm => ?_⟩, i.2⟩
        rcases List.mem_cons.1 hm with e | hm
        · exact absurd e.symm hne
        · exact i.1.2 hm
    · rename_i hge
      split
      · rename_i hz
        have e := T.zero _ _ hz
        subst e
        have ih := mrg_flags T a b a1.2 b1.2
        have hrest : ∀ z ∈ mrg cmp a b, cmp x z.1 < 0 := fun z hz => by
          obtain ⟨t, p, q⟩ := z
          rcases (mrg_mem T a b t).1 ⟨p, q, hz⟩ with h | h
          · exact a1.1 t h
          · exact b1.1 t h
        refine ⟨fun t p q h => ?_, List.pairwise_cons.2 ⟨hrest, ih.2⟩⟩
        rcases List.mem_cons.1 h with h | h
        · injection h with h1 h2; injection h2 with h2 h3; subst h1; subst h2; subst h3; simp
        · have i := ih.1 t p q h
          have hne := T.ne (hrest _ h)
          refine ⟨⟨fun hp => List.mem_cons_of_mem _ (i.1.1 hp), fun hm => ?_⟩, ⟨fun hp => List.mem_cons_of_mem _ (i.2.1 hp), fun hm => ?_⟩⟩
          · rcases List.mem_cons.1 hm with e | hm
            · exact absurd e.symm hne
            · exact i.1.2 hm
          · rcases List.mem_cons.1 hm with e | hm
            · exact absurd e.symm hne
            · exact i.2.2 hm
      · rename_i hne0
        have hyx : cmp y x < 0 := by have := T.anti x y; omega
        have ih := mrg_flags T (x :: a) b ha b1.2
        have hya : ∀ z ∈ x :: a, cmp y z < 0 := fun z hz => by
          rcases List.mem_cons.1 hz with e | hz
          · subst e; exact hyx
          · exact T.lt_trans hyx (a1.1 z hz)
        have hrest : ∀ z ∈ mrg cmp (x :: a) b, cmp y z.1 < 0 := fun z hz => by
          obtain ⟨t, p, q⟩ := z
          rcases (mrg_mem T (x :: a) b t).1 ⟨p, q, hz⟩ with h | h
          · exact hya t h
          · exact b1.1 t h
        refine ⟨fun t p q h => ?_, List.pairwise_cons.2 ⟨hrest, ih.2⟩⟩
        rcases List.mem_cons.1 h with h | h
        · injection h with h1 h2; injection h2 with h2 h3; subst h1; subst h2; subst h3
          exact ⟨by simpa using not_mem_of_lt T hya, by simp⟩
        · have i := ih.1 t p q h
          have hne := T.ne (hrest _ h)
          refine ⟨i.1, ⟨fun hp => List.mem_cons_of_mem _ (i.2.1 hp), fun hm => ?_⟩⟩
          rcases List.mem_cons.1 hm with e | hm
          · exact absurd e.symm hne
          · exact i.2.2 hm
termination_by a b => a.length + b.length
decreasing_by all_goals simp_wf; all_goals omega

/-- those of two lists for which f says so of the lists that have it -/
def chs (cmp : α → α → Int) (f : Bool → Bool → Bool) (a b : List α) : List α := ((mrg cmp a b).filter fun x => f x.2.1 x.2.2).map (·.1)
theorem asc_chs (T : Tot cmp) (f : Bool → Bool → Bool) {a b : List α} (ha : Asc cmp a) (hb : Asc cmp b) : Asc cmp (chs cmp f a b) :=
  List.pairwise_map.2 ((mrg_flags T a b ha hb).2.filter _)
theorem mem_chs [DecidableEq α] (T : Tot cmp) (f : Bool → Bool → Bool) {a b : List α} (ha : Asc cmp a) (hb : Asc cmp b) (t : α) :
    t ∈ chs cmp f a b ↔ (t ∈ a ∨ t ∈ b) ∧ f (decide (t ∈ a)) (decide (t ∈ b)) = true := by
  have H := (mrg_flags T a b ha hb).1
  have tr : ∀ (p : Bool) (P : Prop) [Decidable P], (p = true ↔ P) → p = decide P := fun p P _ h => by
    cases p
    · exact (decide_eq_false (fun x => by have := h.2 x; cases this)).symm
    · exact (decide_eq_true (h.1 rfl)).symm
  unfold chs
  rw [List.mem_map]
  constructor
  · rintro ⟨⟨u, p, q⟩, hm, rfl⟩
    obtain ⟨hm, hf⟩ := List.mem_filter.1 hm
    have h := H u p q hm
    refine ⟨(mrg_mem T a b u).1 ⟨p, q, hm⟩, ?_⟩
    rw [← tr p _ h.1, ← tr q _ h.2]; exact hf
  · rintro ⟨hm, hf⟩
    obtain ⟨p, q, hpq⟩ := (mrg_mem T a b t).2 hm
    have h := H t p q hpq
    refine ⟨(t, p, q), List.mem_filter.2 ⟨hpq, ?_⟩, rfl⟩
    rw [← tr p _ h.1, ← tr q _ h.2] at hf; exact hf

/-- where a search ends: how many are less -/
def fnd (cmp : α → α → Int) (l : List α) (t : α) : Nat := l.countP fun x => decide (cmp x t < 0)
theorem fnd_le (l : List α) (t : α) : fnd cmp l t ≤ l.length := List.countP_le_length
theorem fnd_lt (T : Tot cmp) {l : List α} (h : Asc cmp l) (t : α) (i : Nat) (hi : i < l.length) : cmp l[i] t < 0 ↔ i < fnd cmp l t := by
  have key : ∀ (l : List α), Asc cmp l → ∀ i, (hi : i < l.length) → (cmp l[i] t < 0 ↔ i < fnd cmp l t) := by
    intro l
    induction l with
    | nil => intro _ i hi; simp at hi
    | cons x r ih =>
      intro h i hi
      have a := List.pairwise_cons.1 h
      by_cases hx : cmp x t < 0
      · have e : fnd cmp (x :: r) t = fnd cmp r t + 1 := by unfold fnd; rw [List.countP_cons, decide_eq_true hx]; rfl
        cases i with
        | zero => rw [e]; simp [hx]
        | succ j => rw [e, List.getElem_cons_succ, ih a.2 j (by simpa using hi)]; omega
      · have z : fnd cmp (x :: r) t = 0 := by
          unfold fnd
          rw [List.countP_eq_zero]
          intro y hy
          rcases List.mem_cons.1 hy with e | hy
          · subst e; simpa using hx
          · have := a.1 y hy
            intro hc
            exact hx (T.lt_trans this (by simpa using hc))
        rw [z]
        constructor
        · intro hc
          exfalso
          have hm : (x :: r)[i] ∈ x :: r := List.getElem_mem hi
          have := List.countP_eq_zero.1 z _ hm
          exact this (by simpa using hc)
        · intro hc; omega
  exact key l h i hi
theorem fnd_mem (T : Tot cmp) {l : List α} (h : Asc cmp l) (t : α) : (∃ hi : fnd cmp l t < l.length, cmp l[fnd cmp l t] t = 0) ↔ t ∈ l := by
  constructor
  · rintro ⟨hi, e⟩
    rw [← T.zero _ _ e]; exact List.getElem_mem hi
  · intro hm
    obtain ⟨i, hi, e⟩ := List.getElem_of_mem hm
    have h1 : ¬ i < fnd cmp l t := fun hc => by
      have := (fnd_lt T h t i hi).2 hc
      rw [e, T.self] at this; omega
    have h2 : ¬ fnd cmp l t < i := fun hc => by
      have hlt : cmp l[fnd cmp l t] l[i] < 0 := List.pairwise_iff_getElem.1 h _ _ (by omega) hi hc
      rw [e] at hlt
      have := (fnd_lt T h t _ (by omega)).1 hlt
      omega
    have e2 : i = fnd cmp l t := by omega
    refine ⟨by omega, ?_⟩
    have : l[fnd cmp l t]'(by omega) = t := by simp only [← e2]; exact e
    rw [this, T.self]
end

end Go.Proofs.Ytgfgfggoofjeeaa
