/-
  PLAIN FACTS about balanced trees that are kept by index: list, size, depth, balance; a look-up by an order; no program.
-/
import Derived.Deep.QuietTactic
import Derived.Test.YtgfgfggoofjeeaaGreatTGrew
namespace Go.Proofs.YtgfgfggoofjeeaaGreat.DT

/-- a tree; each node with the block in which it lies -/
inductive Tr where
  | nil : Tr
  | node (b : Nat) (l : Tr) (k : Tup) (r : Tr) : Tr
namespace Tr
def ad : Tr → Option Addr
  | .nil => none
  | .node b _ _ _ => some ⟨b, 0, none⟩
def sz : Tr → Nat
  | .nil => 0
  | .node _ l _ r => sz l + 1 + sz r
def dp : Tr → Nat
  | .nil => 0
  | .node _ l _ r => max (dp l) (dp r) + 1
def li : Tr → List Tup
  | .nil => []
  | .node _ l k r => li l ++ k :: li r
def Bal : Tr → Prop
  | .nil => True
  | .node _ l _ r => Bal l ∧ Bal r ∧ dp l ≤ dp r + 1 ∧ dp r ≤ dp l + 1
theorem li_len : ∀ T : Tr, (li T).length = sz T
  | .nil => rfl
  | .node _ l k r => by
    have h1 := li_len l
    have h2 := li_len r
    simp only [li, sz, List.length_append, List.length_cons, h1, h2]; omega
theorem dp_sz : ∀ T : Tr, dp T ≤ sz T
  | .nil => Nat.le_refl _
  | .node _ l _ r => by
    have h1 := dp_sz l
    have h2 := dp_sz r
    simp only [dp, sz]; omega
theorem dp_pos {T : Tr} (h : 0 < dp T) : ∃ b l k r, T = .node b l k r := by
  cases T with
  | nil => simp [dp] at h
  | node b l k r => exact ⟨b, l, k, r, rfl⟩
theorem sz_pos {T : Tr} (h : 0 < sz T) : ∃ b l k r, T = .node b l k r := by
  cases T with
  | nil => simp [sz] at h
  | node b l k r => exact ⟨b, l, k, r, rfl⟩
theorem dp_nil : dp (.nil : Tr) = 0 := rfl
theorem sz_nil : sz (.nil : Tr) = 0 := rfl
theorem li_nil : li (.nil : Tr) = [] := rfl
theorem dp_node {b : Nat} {l : Tr} {k : Tup} {r : Tr} : dp (.node b l k r) = max (dp l) (dp r) + 1 := rfl
theorem sz_node {b : Nat} {l : Tr} {k : Tup} {r : Tr} : sz (.node b l k r) = sz l + 1 + sz r := rfl
theorem li_node {b : Nat} {l : Tr} {k : Tup} {r : Tr} : li (.node b l k r) = li l ++ k :: li r := rfl
theorem bal_node {b : Nat} {l : Tr} {k : Tup} {r : Tr} : Bal (.node b l k r) = (Bal l ∧ Bal r ∧ dp l ≤ dp r + 1 ∧ dp r ≤ dp l + 1) := rfl

/-- the least number of nodes of a balanced tree of a depth -/
def lst : Nat → Nat
  | 0 => 0
  | 1 => 1
  | n + 2 => lst (n + 1) + lst n + 1
theorem lst_le_succ : ∀ n, lst n ≤ lst (n + 1)
  | 0 => by decide
  | n + 1 => by show _ ≤ lst (n + 1) + lst n + 1; omega
theorem lst_mono {m n : Nat} (h : m ≤ n) : lst m ≤ lst n := by
  induction h with
  | refl => exact Nat.le_refl _
  | step _ ih => exact Nat.le_trans ih (lst_le_succ _)
theorem bal_lst : ∀ {T : Tr}, Bal T → lst (dp T) ≤ sz T
  | .nil, _ => Nat.le_refl _
  | .node b l k r, h => by
    obtain ⟨h1, h2, h3, h4⟩ := h
    have i1 := bal_lst h1
    have i2 := bal_lst h2
    have key : ∀ a c : Nat, a ≤ c + 1 → c ≤ a + 1 → lst (max a c + 1) ≤ lst a + lst c + 1 := by
      intro a c ha hc
      rcases Nat.le_total a c with h | h
      · rw [Nat.max_eq_right h]
        cases c with
        | zero => have : a = 0 := by omega
                  subst this; decide
        | succ c => show lst (c + 1) + lst c + 1 ≤ _; have := lst_mono (show c ≤ a by omega); omega
      · rw [Nat.max_eq_left h]
        cases a with
        | zero => have : c = 0 := by omega
                  subst this; decide
        | succ a => show lst (a + 1) + lst a + 1 ≤ _; have := lst_mono (show a ≤ c by omega); omega
    have := key _ _ h3 h4
    simp only [dp, sz]; omega
theorem bal_16 {T : Tr} (h : Bal T) (hs : sz T ≤ 4096) : dp T ≤ 16 := by
  rcases Nat.lt_or_ge 16 (dp T) with h1 | h1
  · have h2 := lst_mono (show 17 ≤ dp T by omega)
    have h3 : lst 17 = 4180 := by decide
    have := bal_lst h; omega
  · exact h1

/-- a look-up: how many keys are less, and the part at whose root the key is -/
def look (k : Tup) : Tr → Nat × Tr
  | .nil => (0, .nil)
  | .node b l k' r => if cmpT k k' < 0 then look k l else if 0 < cmpT k k' then (sz l + 1 + (look k r).1, (look k r).2) else (sz l, .node b l k' r)
theorem look_lt {k : Tup} {b : Nat} {l : Tr} {k' : Tup} {r : Tr} (h : cmpT k k' < 0) : look k (.node b l k' r) = look k l := by rw [look, if_pos h]
theorem look_gt {k : Tup} {b : Nat} {l : Tr} {k' : Tup} {r : Tr} (h : 0 < cmpT k k') : look k (.node b l k' r) = (sz l + 1 + (look k r).1, (look k r).2) := by rw [look, if_neg (by omega), if_pos h]
theorem look_eq {k : Tup} {b : Nat} {l : Tr} {k' : Tup} {r : Tr} (h : cmpT k k' = 0) : look k (.node b l k' r) = (sz l, .node b l k' r) := by rw [look, if_neg (by omega), if_neg (by omega)]
theorem look_le (k : Tup) : ∀ T : Tr, (look k T).1 ≤ sz T
  | .nil => Nat.le_refl _
  | .node b l k' r => by
    have h1 := look_le k l
    have h2 := look_le k r
    unfold look
    split
    · simp only [sz]; omega
    · split <;> simp only [sz] <;> omega
theorem look_node (k : Tup) : ∀ (T : Tr) {b : Nat} {l : Tr} {k' : Tup} {r : Tr}, (look k T).2 = .node b l k' r → (li T)[(look k T).1]? = some k' ∧ (look k T).1 < sz T
  | .nil, b, l, k', r, h => by cases h
  | .node b0 l0 k0 r0, b, l, k', r, h => by
    unfold look at h ⊢
    split at h
    · rename_i h1
      rw [if_pos h1]
      obtain ⟨i1, i2⟩ := look_node k l0 h
      refine ⟨?_, by simp only [sz]; omega⟩
      rw [li, List.getElem?_append_left (by rw [li_len]; exact i2)]; exact i1
    · rename_i h1
      split at h
      · rename_i h2
        rw [if_neg h1, if_pos h2]
        obtain ⟨i1, i2⟩ := look_node k r0 h
        refine ⟨?_, by simp only [sz]; omega⟩
        show (li l0 ++ k0 :: li r0)[sz l0 + 1 + (look k r0).1]? = _
        rw [List.getElem?_append_right (by rw [li_len]; omega), li_len, show sz l0 + 1 + (look k r0).1 - sz l0 = (look k r0).1 + 1 by omega, List.getElem?_cons_succ]; exact i1
      · rename_i h2
        rw [if_neg h1, if_neg h2]
        injection h with e1 e2 e3 e4
        subst e3
        refine ⟨?_, by simp only [sz]; omega⟩
        show (li l0 ++ k0 :: li r0)[sz l0]? = _
        rw [List.getElem?_append_right (by rw [li_len]; omega), li_len, Nat.sub_self, List.getElem?_cons_zero]

/-! ### insert, replace, remove: what they make of the list -/
theorem ins_l {l r : List Tup} {p : Tup} {i : Nat} {x : Tup} (h : i ≤ l.length) : (l.take i ++ x :: l.drop i) ++ p :: r = (l ++ p :: r).take i ++ x :: (l ++ p :: r).drop i := by
  rw [List.take_append_of_le_length h, List.drop_append_of_le_length h]; simp
theorem ins_r {l r : List Tup} {p : Tup} {i : Nat} {x : Tup} (h : l.length < i) : l ++ p :: (r.take (i - l.length - 1) ++ x :: r.drop (i - l.length - 1)) = (l ++ p :: r).take i ++ x :: (l ++ p :: r).drop i := by
  obtain ⟨j, rfl⟩ : ∃ j, i = l.length + (j + 1) := ⟨i - l.length - 1, by omega⟩
  rw [show l.length + (j + 1) - l.length - 1 = j by omega, List.take_length_add_append, List.drop_length_add_append]; simp
theorem set_l {l r : List Tup} {p x : Tup} {i : Nat} (h : i < l.length) : l.set i x ++ p :: r = (l ++ p :: r).set i x := by
  rw [List.set_append_left _ _ h]
theorem set_r {l r : List Tup} {p x : Tup} {i : Nat} (h : l.length < i) : l ++ p :: r.set (i - l.length - 1) x = (l ++ p :: r).set i x := by
  rw [List.set_append_right _ _ (by omega), show i - l.length = (i - l.length - 1) + 1 by omega, List.set_cons_succ]; simp
theorem set_m {l r : List Tup} {p x : Tup} : l ++ x :: r = (l ++ p :: r).set l.length x := by
  rw [List.set_append_right _ _ (Nat.le_refl _), Nat.sub_self, List.set_cons_zero]
theorem era_l {l r : List Tup} {p : Tup} {i : Nat} (h : i < l.length) : l.eraseIdx i ++ p :: r = (l ++ p :: r).eraseIdx i := by
  rw [List.eraseIdx_append_of_lt_length h]
theorem era_r {l r : List Tup} {p : Tup} {i : Nat} (h : l.length < i) : l ++ p :: r.eraseIdx (i - l.length - 1) = (l ++ p :: r).eraseIdx i := by
  rw [List.eraseIdx_append_of_length_le (by omega), show i - l.length = (i - l.length - 1) + 1 by omega, List.eraseIdx_cons_succ]; simp
theorem era_m {l r : List Tup} {p : Tup} : l ++ r = (l ++ p :: r).eraseIdx l.length := by
  rw [List.eraseIdx_append_of_length_le (Nat.le_refl _), Nat.sub_self, List.eraseIdx_cons_zero]
theorem era_0 {r : List Tup} {q : Tup} (h : r[0]? = some q) : q :: r.eraseIdx 0 = r := by
  cases r with
  | nil => cases h
  | cons a t => simp at h; subst h; rfl

/-! ### in the order of tuples -/
def rk (l : List Tup) (k : Tup) : Nat := l.countP fun p => decide (cmpT p k < 0)
theorem asc_app {l r : List Tup} {p : Tup} (h : Asc cmpT (l ++ p :: r)) : Asc cmpT l ∧ Asc cmpT r ∧ (∀ q ∈ l, cmpT q p < 0) ∧ (∀ q ∈ r, cmpT p q < 0) := by
  unfold Asc at h
  rw [List.pairwise_append, List.pairwise_cons] at h
  exact ⟨h.1, h.2.1.2, fun q hq => h.2.2 q hq p List.mem_cons_self, h.2.1.1⟩
theorem rk_lt {l : List Tup} {k : Tup} (h : ∀ q ∈ l, cmpT q k < 0) : rk l k = l.length := by
  unfold rk; rw [List.countP_eq_length]; intro q hq; simpa using h q hq
theorem rk_ge {l : List Tup} {k : Tup} (h : ∀ q ∈ l, 0 ≤ cmpT q k) : rk l k = 0 := by
  unfold rk; rw [List.countP_eq_zero]; intro q hq; simpa using h q hq
theorem rk_app (l r : List Tup) (p : Tup) (k : Tup) : rk (l ++ p :: r) k = rk l k + (if cmpT p k < 0 then 1 else 0) + rk r k := by
  unfold rk; rw [List.countP_append, List.countP_cons]; simp; omega
theorem rk_cons (p : Tup) (t : List Tup) (k : Tup) : rk (p :: t) k = rk t k + (if cmpT p k < 0 then 1 else 0) := by
  unfold rk; rw [List.countP_cons]; simp
theorem rk_le (l : List Tup) (k : Tup) : rk l k ≤ l.length := List.countP_le_length
theorem look_spec (k : Tup) : ∀ T : Tr, Asc cmpT T.li →
    (look k T).1 = rk T.li k ∧ ((look k T).2 = .nil → k ∉ T.li) ∧ (∀ b l k0 r, (look k T).2 = .node b l k0 r → k0 = k)
  | .nil, _ => ⟨rfl, (fun _ => by rw [li_nil]; exact List.not_mem_nil), (fun _ _ _ _ h => nomatch h)⟩
  | .node b l k0 r, h => by
    rw [li_node] at h
    obtain ⟨h1, h2, h3, h4⟩ := asc_app h
    obtain ⟨i1, i2, i3⟩ := look_spec k l h1
    obtain ⟨j1, j2, j3⟩ := look_spec k r h2
    have ha := tot.anti k k0
    rw [li_node, rk_app]
    rcases Int.lt_trichotomy (cmpT k k0) 0 with hk | hk | hk
    · have hr : ∀ q ∈ r.li, cmpT k q < 0 := fun q hq => tot.lt_trans hk (h4 q hq)
      rw [look_lt hk, i1, if_neg (by omega), rk_ge (l := r.li) (fun q hq => by have := hr q hq; have := tot.anti k q; omega)]
      refine ⟨by omega, fun hn hm => ?_, i3⟩
      rcases List.mem_append.1 hm with hm | hm
      · exact i2 hn hm
      · rcases List.mem_cons.1 hm with rfl | hm
        · rw [tot.self] at hk; omega
        · have := hr k hm; rw [tot.self] at this; omega
    · have he := tot.zero _ _ hk
      subst he
      rw [look_eq hk, if_neg (by omega), rk_ge (l := r.li) (fun q hq => by have := h4 q hq; have := tot.anti k q; omega), rk_lt (l := l.li) h3, li_len]
      exact ⟨rfl, (fun h => nomatch h), (fun _ _ _ _ h => by injection h with _ _ h _; exact h.symm)⟩
    · have hl : ∀ q ∈ l.li, cmpT q k < 0 := fun q hq => tot.lt_trans (h3 q hq) (by omega)
      rw [look_gt hk, if_pos (by omega), rk_lt (l := l.li) hl, li_len]
      refine ⟨by rw [j1], fun hn hm => ?_, j3⟩
      rcases List.mem_append.1 hm with hm | hm
      · have := hl k hm; rw [tot.self] at this; omega
      · rcases List.mem_cons.1 hm with rfl | hm
        · rw [tot.self] at hk; omega
        · exact j2 hn hm
theorem asc_cons {p : Tup} {t : List Tup} (h : Asc cmpT (p :: t)) : Asc cmpT t ∧ ∀ q ∈ t, cmpT p q < 0 := by
  unfold Asc at h; rw [List.pairwise_cons] at h; exact ⟨h.2, h.1⟩
theorem ins_new {k : Tup} : ∀ {l : List Tup}, Asc cmpT l → k ∉ l → ins cmpT k l = l.take (rk l k) ++ k :: l.drop (rk l k)
  | [], _, _ => rfl
  | p :: t, h, hn => by
    obtain ⟨h1, h2⟩ := asc_cons h
    have hp : p ≠ k := fun e => hn (by rw [e]; exact List.mem_cons_self)
    have ha := tot.anti k p
    rw [rk_cons]
    unfold ins
    by_cases hk : cmpT k p < 0
    · rw [if_pos hk, if_neg (by omega), rk_ge (fun q hq => by have := tot.lt_trans hk (h2 q hq); have := tot.anti k q; omega)]; rfl
    · have hz : cmpT k p ≠ 0 := fun e => hp (tot.zero _ _ e).symm
      rw [if_neg hk, if_pos (by omega), ins_new h1 (fun hm => hn (List.mem_cons_of_mem _ hm))]; rfl
/-- a list without a tuple -/
def del (k : Tup) (l : List Tup) : List Tup := l.filter fun p => decide (p ≠ k)
theorem del_new {k : Tup} {l : List Tup} (hn : k ∉ l) : del k l = l := by
  unfold del; rw [List.filter_eq_self]; intro p hp; simpa using (fun e : p = k => hn (e ▸ hp))
theorem del_old {k : Tup} : ∀ {l : List Tup}, Asc cmpT l → l[rk l k]? = some k → del k l = l.eraseIdx (rk l k)
  | [], _, hx => by cases hx
  | p :: t, h, hx => by
    obtain ⟨h1, h2⟩ := asc_cons h
    rw [rk_cons] at hx ⊢
    by_cases hk : cmpT p k < 0
    · rw [if_pos hk] at hx ⊢
      have e := del_old h1 (by simpa using hx)
      have hne := tot.ne hk
      unfold del at e ⊢
      rw [List.filter_cons_of_pos (by simpa using hne), e]; rfl
    · rw [if_neg hk] at hx ⊢
      have h3 : rk t k = 0 := by
        refine rk_ge fun q hq => ?_
        have q1 := h2 q hq
        rcases Int.lt_or_le (cmpT q k) 0 with h | h
        · have := tot.lt_trans q1 h; omega
        · exact h
      rw [h3] at hx ⊢
      simp at hx
      subst hx
      have e := del_new (k := p) (l := t) (fun hm => by have := h2 p hm; rw [tot.self] at this; omega)
      unfold del at e ⊢
      rw [List.filter_cons_of_neg (by simp), e]; rfl
theorem del_asc {k : Tup} {l : List Tup} (h : Asc cmpT l) : Asc cmpT (del k l) := List.Pairwise.filter _ h
theorem del_len {k : Tup} (l : List Tup) : (del k l).length ≤ l.length := List.length_filter_le _ _
theorem mem_del {k x : Tup} {l : List Tup} : x ∈ del k l ↔ x ∈ l ∧ x ≠ k := by unfold del; rw [List.mem_filter]; simp
end Tr
end Go.Proofs.YtgfgfggoofjeeaaGreat.DT
