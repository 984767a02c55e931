/-
  PLAIN FACTS about balanced trees that are kept by index: list, size, depth, balance; a look-up by an order; no program.
-/
import Derived.WalkKit
import Derived.Deep.QuietTactic
namespace Go.Proofs.Ythkceffnfhdjhaa

/-- a tree; each node with the block in which it lies -/
inductive Tr (α : Type) where
  | nil : Tr α
  | node (b : Nat) (l : Tr α) (k : Int) (v : α) (r : Tr α) : Tr α
namespace Tr
variable {α : Type}
def ad : Tr α → Option Addr
  | .nil => none
  | .node b _ _ _ _ => some ⟨b, 0, none⟩
def sz : Tr α → Nat
  | .nil => 0
  | .node _ l _ _ r => sz l + 1 + sz r
def dp : Tr α → Nat
  | .nil => 0
  | .node _ l _ _ r => max (dp l) (dp r) + 1
def li : Tr α → List (Int × α)
  | .nil => []
  | .node _ l k v r => li l ++ (k, v) :: li r
def Bal : Tr α → Prop
  | .nil => True
  | .node _ l _ _ r => Bal l ∧ Bal r ∧ dp l ≤ dp r + 1 ∧ dp r ≤ dp l + 1
theorem li_len : ∀ T : Tr α, (li T).length = sz T
  | .nil => rfl
  | .node _ l k v r => by
    have h1 := li_len l
    have h2 := li_len r
    simp only [li, sz, List.length_append, List.length_cons, h1, h2]; omega
theorem dp_sz : ∀ T : Tr α, dp T ≤ sz T
  | .nil => Nat.le_refl _
  | .node _ l _ _ r => by
    have h1 := dp_sz l
    have h2 := dp_sz r
    simp only [dp, sz]; omega
theorem dp_pos {T : Tr α} (h : 0 < dp T) : ∃ b l k v r, T = .node b l k v r := by
  cases T with
  | nil => simp [dp] at h
  | node b l k v r => exact ⟨b, l, k, v, r, rfl⟩
theorem sz_pos {T : Tr α} (h : 0 < sz T) : ∃ b l k v r, T = .node b l k v r := by
  cases T with
  | nil => simp [sz] at h
  | node b l k v r => exact ⟨b, l, k, v, r, rfl⟩
theorem dp_nil : dp (.nil : Tr α) = 0 := rfl
theorem sz_nil : sz (.nil : Tr α) = 0 := rfl
theorem li_nil : li (.nil : Tr α) = [] := rfl
theorem dp_node {b : Nat} {l : Tr α} {k : Int} {v : α} {r : Tr α} : dp (.node b l k v r) = max (dp l) (dp r) + 1 := rfl
theorem sz_node {b : Nat} {l : Tr α} {k : Int} {v : α} {r : Tr α} : sz (.node b l k v r) = sz l + 1 + sz r := rfl
theorem li_node {b : Nat} {l : Tr α} {k : Int} {v : α} {r : Tr α} : li (.node b l k v r) = li l ++ (k, v) :: li r := rfl
theorem bal_node {b : Nat} {l : Tr α} {k : Int} {v : α} {r : Tr α} : Bal (.node b l k v r) = (Bal l ∧ Bal r ∧ dp l ≤ dp r + 1 ∧ dp r ≤ dp l + 1) := rfl

/-- the least number of nodes of a balanced tree of a depth -/
def lst : Nat → Nat
  | 0 => 0
  | 1 => 1
  | n + 2 => lst (n + 1) + lst n + 1
theorem lst_le_succ : ∀ n, lst n ≤ lst (n + 1)
  | 0 => by decide
  | n + 1 => by show _ ≤ lst (n + 1) + lst n + 1; omega
theorem lst_mono {m n : Nat} (h : m ≤ n) : lst m ≤ lst n := by
  induction h with
  | refl => exact Nat.le_refl _
  | step _ ih => exact Nat.le_trans ih (lst_le_succ _)
theorem bal_lst : ∀ {T : Tr α}, Bal T → lst (dp T) ≤ sz T
  | .nil, _ => Nat.le_refl _
  | .node b l k v r, h => by
    obtain ⟨h1, h2, h3, h4⟩ := h
    have i1 := bal_lst h1
    have i2 := bal_lst h2
    have key : ∀ a c : Nat, a ≤ c + 1 → c ≤ a + 1 → lst (max a c + 1) ≤ lst a + lst c + 1 := by
      intro a c ha hc
      rcases Nat.le_total a c with h | h
      · rw [Nat.max_eq_right h]
        cases c with
        | zero => have : a = 0 := by omega
                  subst this; decide
        | succ c => show lst (c + 1) + lst c + 1 ≤ _; have := lst_mono (show c ≤ a by omega); omega
      · rw [Nat.max_eq_left h]
        cases a with
        | zero => have : c = 0 := by omega
                  subst this; decide
        | succ a => show lst (a + 1) + lst a + 1 ≤ _; have := lst_mono (show a ≤ c by omega); omega
    have := key _ _ h3 h4
    simp only [dp, sz]; omega
theorem bal_16 {T : Tr α} (h : Bal T) (hs : sz T ≤ 4096) : dp T ≤ 16 := by
  rcases Nat.lt_or_ge 16 (dp T) with h1 | h1
  · have h2 := lst_mono (show 17 ≤ dp T by omega)
    have h3 : lst 17 = 4180 := by decide
    have := bal_lst h; omega
  · exact h1

/-- a look-up: how many keys are less, and the part at whose root the key is -/
def look (c : Int → Int → Int) (k : Int) : Tr α → Nat × Tr α
  | .nil => (0, .nil)
  | .node b l k' v r => if c k k' < 0 then look c k l else if 0 < c k k' then (sz l + 1 + (look c k r).1, (look c k r).2) else (sz l, .node b l k' v r)
theorem look_lt {c : Int → Int → Int} {k : Int} {b : Nat} {l : Tr α} {k' : Int} {v : α} {r : Tr α} (h : c k k' < 0) : look c k (.node b l k' v r) = look c k l := by rw [look, if_pos h]
theorem look_gt {c : Int → Int → Int} {k : Int} {b : Nat} {l : Tr α} {k' : Int} {v : α} {r : Tr α} (h : 0 < c k k') : look c k (.node b l k' v r) = (sz l + 1 + (look c k r).1, (look c k r).2) := by rw [look, if_neg (by omega), if_pos h]
theorem look_eq {c : Int → Int → Int} {k : Int} {b : Nat} {l : Tr α} {k' : Int} {v : α} {r : Tr α} (h : c k k' = 0) : look c k (.node b l k' v r) = (sz l, .node b l k' v r) := by rw [look, if_neg (by omega), if_neg (by omega)]
theorem look_le (c : Int → Int → Int) (k : Int) : ∀ T : Tr α, (look c k T).1 ≤ sz T
  | .nil => Nat.le_refl _
  | .node b l k' v r => by
    have h1 := look_le c k l
    have h2 := look_le c k r
    unfold look
    split
    · simp only [sz]; omega
    · split <;> simp only [sz] <;> omega
theorem look_node (c : Int → Int → Int) (k : Int) : ∀ (T : Tr α) {b : Nat} {l : Tr α} {k' : Int} {v : α} {r : Tr α}, (look c k T).2 = .node b l k' v r → (li T)[(look c k T).1]? = some (k', v) ∧ (look c k T).1 < sz T
  | .nil, b, l, k', v, r, h => by cases h
  | .node b0 l0 k0 v0 r0, b, l, k', v, r, h => by
    unfold look at h ⊢
    split at h
    · rename_i h1
      rw [if_pos h1]
      obtain ⟨i1, i2⟩ := look_node c k l0 h
      refine ⟨?_, by simp only [sz]; omega⟩
      rw [li, List.getElem?_append_left (by rw [li_len]; exact i2)]; exact i1
    · rename_i h1
      split at h
      · rename_i h2
        rw [if_neg h1, if_pos h2]
        obtain ⟨i1, i2⟩ := look_node c k r0 h
        refine ⟨?_, by simp only [sz]; omega⟩
        show (li l0 ++ (k0, v0) :: li r0)[sz l0 + 1 + (look c k r0).1]? = _
        rw [List.getElem?_append_right (by rw [li_len]; omega), li_len, show sz l0 + 1 + (look c k r0).1 - sz l0 = (look c k r0).1 + 1 by omega, List.getElem?_cons_succ]; exact i1
      · rename_i h2
        rw [if_neg h1, if_neg h2]
        injection h with e1 e2 e3 e4 e5
        subst e3; subst e4
        refine ⟨?_, by simp only [sz]; omega⟩
        show (li l0 ++ (k0, v0) :: li r0)[sz l0]? = _
        rw [List.getElem?_append_right (by rw [li_len]; omega), li_len, Nat.sub_self, List.getElem?_cons_zero]

/-! ### insert, replace, remove: what they make of the list -/
theorem ins_l {l r : List (Int × α)} {p : Int × α} {i : Nat} {x : Int × α} (h : i ≤ l.length) : (l.take i ++ x :: l.drop i) ++ p :: r = (l ++ p :: r).take i ++ x :: (l ++ p :: r).drop i := by
  rw [List.take_append_of_le_length h, List.drop_append_of_le_length h]; simp
theorem ins_r {l r : List (Int × α)} {p : Int × α} {i : Nat} {x : Int × α} (h : l.length < i) : l ++ p :: (r.take (i - l.length - 1) ++ x :: r.drop (i - l.length - 1)) = (l ++ p :: r).take i ++ x :: (l ++ p :: r).drop i := by
  obtain ⟨j, rfl⟩ : ∃ j, i = l.length + (j + 1) := ⟨i - l.length - 1, by omega⟩
  rw [show l.length + (j + 1) - l.length - 1 = j by omega, List.take_length_add_append, List.drop_length_add_append]; simp
theorem set_l {l r : List (Int × α)} {p x : Int × α} {i : Nat} (h : i < l.length) : l.set i x ++ p :: r = (l ++ p :: r).set i x := by
  rw [List.set_append_left _ _ h]
theorem set_r {l r : List (Int × α)} {p x : Int × α} {i : Nat} (h : l.length < i) : l ++ p :: r.set (i - l.length - 1) x = (l ++ p :: r).set i x := by
  rw [List.set_append_right _ _ (by omega), show i - l.length = (i - l.length - 1) + 1 by omega, List.set_cons_succ]; simp
theorem set_m {l r : List (Int × α)} {p x : Int × α} : l ++ x :: r = (l ++ p :: r).set l.length x := by
  rw [List.set_append_right _ _ (Nat.le_refl _), Nat.sub_self, List.set_cons_zero]
theorem era_l {l r : List (Int × α)} {p : Int × α} {i : Nat} (h : i < l.length) : l.eraseIdx i ++ p :: r = (l ++ p :: r).eraseIdx i := by
  rw [List.eraseIdx_append_of_lt_length h]
theorem era_r {l r : List (Int × α)} {p : Int × α} {i : Nat} (h : l.length < i) : l ++ p :: r.eraseIdx (i - l.length - 1) = (l ++ p :: r).eraseIdx i := by
  rw [List.eraseIdx_append_of_length_le (by omega), show i - l.length = (i - l.length - 1) + 1 by omega, List.eraseIdx_cons_succ]; simp
theorem era_m {l r : List (Int × α)} {p : Int × α} : l ++ r = (l ++ p :: r).eraseIdx l.length := by
  rw [List.eraseIdx_append_of_length_le (Nat.le_refl _), Nat.sub_self, List.eraseIdx_cons_zero]
theorem era_0 {r : List (Int × α)} {q : Int × α} (h : r[0]? = some q) : q :: r.eraseIdx 0 = r := by
  cases r with
  | nil => cases h
  | cons a t => simp at h; subst h; rfl
end Tr
end Go.Proofs.Ythkceffnfhdjhaa
