/-
  PLAIN FACTS about lists that ascend by a number of each key: what a look-up in a tree, Put and Drop make of them; the reference's lists. No program.
-/
import Derived.Test.YthkceffnfhdjhaaDMath
namespace Go.Proofs.Ythkceffnfhdjhaa
namespace Tr
variable {α : Type}
def Asc (f : Int → Int) (l : List (Int × α)) : Prop := l.Pairwise fun a b => f a.1 < f b.1
/-- c is the order by f -/
def OrdF (c : Int → Int → Int) (f : Int → Int) : Prop := ∀ a b, (c a b < 0 ↔ f a < f b) ∧ (0 < c a b ↔ f b < f a)
def rkL (f : Int → Int) (l : List (Int × α)) (k : Int) : Nat := l.countP fun p => decide (f p.1 < f k)
def putL (f : Int → Int) : List (Int × α) → Int → α → List (Int × α)
  | [], k, v => [(k, v)]
  | p :: t, k, v => if f k < f p.1 then (k, v) :: p :: t else if f p.1 = f k then (p.1, v) :: t else p :: putL f t k v
def dropL (f : Int → Int) (l : List (Int × α)) (k : Int) : List (Int × α) := l.filter fun p => decide (f p.1 ≠ f k)
variable {f : Int → Int}
theorem asc_app {l r : List (Int × α)} {p : Int × α} (h : Asc f (l ++ p :: r)) : Asc f l ∧ Asc f r ∧ (∀ q ∈ l, f q.1 < f p.1) ∧ (∀ q ∈ r, f p.1 < f q.1) := by
  unfold Asc at h
  rw [List.pairwise_append, List.pairwise_cons] at h
  exact ⟨h.1, h.2.1.2, fun q hq => h.2.2 q hq p List.mem_cons_self, h.2.1.1⟩
theorem rk_lt {l : List (Int × α)} {k : Int} (h : ∀ q ∈ l, f q.1 < f k) : rkL f l k = l.length := by
  unfold rkL; rw [List.countP_eq_length]; intro q hq; simpa using h q hq
theorem rk_ge {l : List (Int × α)} {k : Int} (h : ∀ q ∈ l, f k ≤ f q.1) : rkL f l k = 0 := by
  unfold rkL; rw [List.countP_eq_zero]; intro q hq; simpa using h q hq
theorem rk_app (l r : List (Int × α)) (p : Int × α) (k : Int) : rkL f (l ++ p :: r) k = rkL f l k + (if f p.1 < f k then 1 else 0) + rkL f r k := by
  unfold rkL; rw [List.countP_append, List.countP_cons]; simp; omega
theorem look_spec {c : Int → Int → Int} (hc : OrdF c f) (k : Int) : ∀ T : Tr α, Asc f T.li →
    (look c k T).1 = rkL f T.li k ∧ ((look c k T).2 = .nil → ∀ p ∈ T.li, f p.1 ≠ f k) ∧ (∀ b l k0 v r, (look c k T).2 = .node b l k0 v r → f k0 = f k)
  | .nil, _ => ⟨rfl, (fun _ _ h => nomatch h), (fun _ _ _ _ _ h => nomatch h)⟩
  | .node b l k0 v0 r, h => by
    rw [li_node] at h
    obtain ⟨h1, h2, h3, h4⟩ := asc_app h
    obtain ⟨i1, i2, i3⟩ := look_spec hc k l h1
    obtain ⟨j1, j2, j3⟩ := look_spec hc k r h2
    rw [li_node, rk_app]
    rcases Int.lt_trichotomy (f k) (f k0) with hk | hk | hk
    · rw [look_lt ((hc k k0).1.2 hk), i1, if_neg (by simp; omega), rk_ge (f := f) (l := r.li) (fun q hq => by have := h4 q hq; simp at this; omega)]
      refine ⟨by omega, fun hn p hp => ?_, i3⟩
      rcases List.mem_append.1 hp with hp | hp
      · exact i2 hn p hp
      · rcases List.mem_cons.1 hp with rfl | hp
        · simp; omega
        · have := h4 p hp; simp at this; omega
    · have he : c k k0 = 0 := by
        have a := hc k k0
        rcases Int.lt_trichotomy (c k k0) 0 with h | h | h
        · have := a.1.1 h; omega
        · exact h
        · have := a.2.1 h; omega
      rw [look_eq he, if_neg (by simp; omega), rk_ge (f := f) (l := r.li) (fun q hq => by have := h4 q hq; simp at this; omega), rk_lt (f := f) (l := l.li) (fun q hq => by have := h3 q hq; simp at this; omega), li_len]
      exact ⟨rfl, (fun h => nomatch h), (fun _ _ _ _ _ h => by injection h with _ _ h _ _; rw [← h]; exact hk.symm)⟩
    · rw [look_gt ((hc k k0).2.2 hk), if_pos hk, rk_lt (f := f) (l := l.li) (fun q hq => by have := h3 q hq; simp at this; omega), li_len]
      refine ⟨by rw [j1], fun hn p hp => ?_, j3⟩
      rcases List.mem_append.1 hp with hp | hp
      · have := h3 p hp; simp at this; omega
      · rcases List.mem_cons.1 hp with rfl | hp
        · simp; omega
        · exact j2 hn p hp
theorem rk_cons (p : Int × α) (t : List (Int × α)) (k : Int) : rkL f (p :: t) k = rkL f t k + (if f p.1 < f k then 1 else 0) := by
  unfold rkL; rw [List.countP_cons]; simp
theorem asc_cons {p : Int × α} {t : List (Int × α)} (h : Asc f (p :: t)) : Asc f t ∧ ∀ q ∈ t, f p.1 < f q.1 := by
  unfold Asc at h; rw [List.pairwise_cons] at h; exact ⟨h.2, h.1⟩
theorem put_new {k : Int} {v : α} : ∀ {l : List (Int × α)}, Asc f l → (∀ p ∈ l, f p.1 ≠ f k) → putL f l k v = l.take (rkL f l k) ++ (k, v) :: l.drop (rkL f l k)
  | [], _, _ => rfl
  | p :: t, h, hn => by
    obtain ⟨h1, h2⟩ := asc_cons h
    have hp := hn p List.mem_cons_self
    rw [rk_cons]
    unfold putL
    by_cases hk : f k < f p.1
    · rw [if_pos hk, if_neg (by omega), rk_ge (fun q hq => by have := h2 q hq; omega)]; rfl
    · rw [if_neg hk, if_neg hp, if_pos (by omega), put_new h1 (fun q hq => hn q (List.mem_cons_of_mem _ hq))]; rfl
theorem put_old {k k0 : Int} {v v0 : α} (he : f k0 = f k) : ∀ {l : List (Int × α)}, Asc f l → l[rkL f l k]? = some (k0, v0) → putL f l k v = l.set (rkL f l k) (k0, v)
  | [], _, hx => by cases hx
  | p :: t, h, hx => by
    obtain ⟨h1, h2⟩ := asc_cons h
    rw [rk_cons] at hx ⊢
    unfold putL
    by_cases hk : f p.1 < f k
    · rw [if_pos hk] at hx ⊢
      rw [if_neg (by omega), if_neg (by omega), put_old he h1 (by simpa using hx)]; rfl
    · rw [if_neg hk, rk_ge (fun q hq => by have := h2 q hq; omega)] at hx ⊢
      simp at hx
      subst hx
      have he' : ¬ f k < f k0 := by omega
      rw [if_neg he', if_pos he]; rfl
theorem drop_new {k : Int} {l : List (Int × α)} (hn : ∀ p ∈ l, f p.1 ≠ f k) : dropL f l k = l := by
  unfold dropL; rw [List.filter_eq_self]; intro p hp; simpa using hn p hp
theorem drop_old {k k0 : Int} {v0 : α} (he : f k0 = f k) : ∀ {l : List (Int × α)}, Asc f l → l[rkL f l k]? = some (k0, v0) → dropL f l k = l.eraseIdx (rkL f l k)
  | [], _, hx => by cases hx
  | p :: t, h, hx => by
    obtain ⟨h1, h2⟩ := asc_cons h
    rw [rk_cons] at hx ⊢
    by_cases hk : f p.1 < f k
    · rw [if_pos hk] at hx ⊢
      have e := drop_old he h1 (by simpa using hx)
      unfold dropL at e ⊢
      rw [List.filter_cons_of_pos (by simp; omega), e]; rfl
    · rw [if_neg hk, rk_ge (fun q hq => by have := h2 q hq; omega)] at hx ⊢
      simp at hx
      subst hx
      have h2' : ∀ q ∈ t, f k0 < f q.1 := h2
      have e := drop_new (f := f) (k := k) (l := t) (fun q hq => by have := h2' q hq; omega)
      unfold dropL at e ⊢
      rw [List.filter_cons_of_neg (by simp; omega), e]; rfl
theorem put_mem {k : Int} {v : α} : ∀ {l : List (Int × α)} {p : Int × α}, p ∈ putL f l k v → p ∈ l ∨ f p.1 = f k
  | [], p, h => by simp [putL] at h; subst h; exact .inr rfl
  | q :: t, p, h => by
    unfold putL at h
    split at h
    · rcases List.mem_cons.1 h with rfl | h
      · exact .inr rfl
      · exact .inl h
    · split at h
      · rename_i he
        rcases List.mem_cons.1 h with rfl | h
        · exact .inr he
        · exact .inl (List.mem_cons_of_mem _ h)
      · rcases List.mem_cons.1 h with rfl | h
        · exact .inl List.mem_cons_self
        · rcases put_mem h with h | h
          · exact .inl (List.mem_cons_of_mem _ h)
          · exact .inr h
theorem put_asc {k : Int} {v : α} : ∀ {l : List (Int × α)}, Asc f l → Asc f (putL f l k v)
  | [], _ => List.pairwise_singleton _ _
  | q :: t, h => by
    obtain ⟨h1, h2⟩ := asc_cons h
    unfold putL
    split
    · rename_i hk
      refine List.pairwise_cons.2 ⟨fun p hp => ?_, h⟩
      rcases List.mem_cons.1 hp with rfl | hp
      · exact hk
      · have := h2 p hp; simp only; omega
    · split
      · rename_i he
        exact List.pairwise_cons.2 ⟨fun p hp => h2 p hp, h1⟩
      · rename_i hk he
        refine List.pairwise_cons.2 ⟨fun p hp => ?_, put_asc h1⟩
        rcases put_mem hp with hp | hp
        · exact h2 p hp
        · omega
theorem drop_asc {k : Int} {l : List (Int × α)} (h : Asc f l) : Asc f (dropL f l k) := List.Pairwise.filter _ h
theorem put_len {k : Int} {v : α} : ∀ (l : List (Int × α)), (putL f l k v).length ≤ l.length + 1
  | [] => Nat.le_refl _
  | q :: t => by
    unfold putL
    have := put_len (k := k) (v := v) t
    split
    · simp
    · split <;> simp <;> omega
theorem drop_len {k : Int} (l : List (Int × α)) : (dropL f l k).length ≤ l.length := List.length_filter_le _ _

/-! ### the order of numbers, and that of halves -/
def ordI (a b : Int) : Int := if a < b then -5 else if a > b then 1 else 0
theorem ordI_f : OrdF ordI id := fun a b => by
  show (ordI a b < 0 ↔ a < b) ∧ (0 < ordI a b ↔ b < a)
  unfold ordI
  constructor
  · constructor
    · intro h; split at h
      · assumption
      · split at h <;> omega
    · intro h; rw [if_pos h]; decide
  · constructor
    · intro h; split at h
      · omega
      · split at h
        · assumption
        · omega
    · intro h; have h' : b < a := h; rw [if_neg (by omega), if_pos h']; decide

/-! ### the reference's lists of numbers -/
def rp (k v : Int) : Bool → List (Int × Int) → List (Int × Int)
  | put, [] => if put then [] else [(k, v)]
  | put, p :: t => if p.1 = k then (k, v) :: rp k v true t else if put = false ∧ k < p.1 then (k, v) :: p :: rp k v true t else p :: rp k v put t
theorem rp_eq {k v : Int} {put : Bool} {y : Int} {t : List (Int × Int)} : rp k v put ((k, y) :: t) = (k, v) :: rp k v true t := by
  rw [rp, if_pos rfl]
theorem rp_ins {k v q y : Int} {t : List (Int × Int)} (h : ¬ q = k) (h2 : k < q) : rp k v false ((q, y) :: t) = (k, v) :: (q, y) :: rp k v true t := by
  rw [rp, if_neg h, if_pos ⟨rfl, h2⟩]
theorem rp_skip {k v q y : Int} {put : Bool} {t : List (Int × Int)} (h : ¬ q = k) (h2 : ¬ (put = false ∧ k < q)) : rp k v put ((q, y) :: t) = (q, y) :: rp k v put t := by
  rw [rp, if_neg h, if_neg h2]
theorem rp_true {k v : Int} : ∀ {l : List (Int × Int)}, (∀ p ∈ l, p.1 ≠ k) → rp k v true l = l
  | [], _ => rfl
  | p :: t, h => by
    unfold rp
    rw [if_neg (h p List.mem_cons_self), if_neg (by simp), rp_true fun q hq => h q (List.mem_cons_of_mem _ hq)]
theorem rp_put {k v : Int} : ∀ {l : List (Int × Int)}, Asc id l → rp k v false l = putL id l k v
  | [], _ => rfl
  | p :: t, h => by
    obtain ⟨h1, h2⟩ := asc_cons h
    simp only [id] at h2
    unfold rp putL
    simp only [id]
    by_cases he : p.1 = k
    · rw [if_pos he, if_neg (by omega), if_pos he, rp_true (fun q hq => by have := h2 q hq; omega), he]
    · rw [if_neg he]
      by_cases hk : k < p.1
      · rw [if_pos (by simpa using hk), if_pos hk, rp_true (fun q hq => by have := h2 q hq; omega)]
      · rw [if_neg (by simp; omega), if_neg hk, if_neg he, rp_put h1]
/-- the pairs with indices from x up to y -/
def rng (x y : Int) (l : List (Int × α)) : List (Int × α) := (l.drop (max x 0).toNat).take (min y (l.length : Int) - max x 0).toNat
theorem rng_snoc (x y : Int) (t : List (Int × α)) (p : Int × α) : rng x y (t ++ [p]) = rng x y t ++ (if x ≤ (t.length : Int) ∧ (t.length : Int) < y then [p] else []) := by
  unfold rng
  rw [List.length_append, List.length_singleton]
  by_cases h1 : (max x 0).toNat ≤ t.length
  · rw [List.drop_append_of_le_length h1]
    by_cases h2 : (t.length : Int) < y
    · rw [if_pos ⟨by omega, h2⟩, List.take_of_length_le (by simp; omega), List.take_of_length_le (by simp; omega)]
    · rw [if_neg (by omega), List.append_nil, List.take_append_of_le_length (by simp; omega)]
      congr 1; omega
  · rw [List.drop_of_length_le (by simp; omega), List.drop_of_length_le (by omega), if_neg (by omega)]; simp
end Tr
end Go.Proofs.Ythkceffnfhdjhaa
