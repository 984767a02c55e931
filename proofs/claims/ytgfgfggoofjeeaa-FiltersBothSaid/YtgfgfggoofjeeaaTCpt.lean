/-
  THE CONTRACT of slices.Compact at tuples, and of tuples.cut.
-/
import Derived.Test.YtgfgfggoofjeeaaTBlk
namespace Go.Proofs.Ytgfgfggoofjeeaa
open Go.RowKit Go.Sort

theorem cpt_same : ∀ (l : List Tup) (k : Nat) (h : k + 1 < l.length), l[k] = l[k + 1] → cpt (l.take (k + 2)) = cpt (l.take (k + 1))
  | [x], k, h, _ => by simp at h
  | x :: y :: r, 0, _, e => by
    have e : x = y := e
    subst e
    simp [cpt]
  | x :: y :: r, k + 1, h, e => by
    have ih := cpt_same (y :: r) k (by simpa using h) e
    rw [List.take_succ_cons, List.take_succ_cons, List.take_succ_cons, List.take_succ_cons] at *
    rw [cpt, cpt, ih]
theorem cpt_new : ∀ (l : List Tup) (k : Nat) (h : k + 1 < l.length), ¬ l[k] = l[k + 1] → cpt (l.take (k + 2)) = cpt (l.take (k + 1)) ++ [l[k + 1]]
  | [x], k, h, _ => by simp at h
  | x :: y :: r, 0, _, e => by
    have e : ¬ x = y := e
    simp [cpt, e]
  | x :: y :: r, k + 1, h, e => by
    have ih := cpt_new (y :: r) k (by simpa using h) e
    rw [List.take_succ_cons, List.take_succ_cons, List.take_succ_cons, List.take_succ_cons] at *
    rw [cpt, cpt, ih]
    split <;> simp
theorem cpt_len : ∀ l : List Tup, (cpt l).length ≤ l.length
  | [] => Nat.le_refl _
  | [x] => Nat.le_refl _
  | x :: y :: r => by
    unfold cpt
    have := cpt_len (y :: r)
    split
    · rw [List.length_cons]; omega
    · rw [List.length_cons, List.length_cons]; omega
theorem cpt_short {l : List Tup} (h : l.length < 2) : cpt l = l := by
  match l, h with
  | [], _ => rfl
  | [x], _ => rfl
  | x :: y :: r, h => simp at h; omega

/-- what Compact leaves -/
def CptRet (base : Nat) (A : Option Addr) (c : Nat) (l : List Tup) (w : World) (e : Ending) (w' : World) : Prop :=
  e = .returned (.slice A (cpt l).length c) ∧ Own w' base (.slice A (cpt l).length c) (cpt l) ∧ (∃ row, w.grownBy w' row ∧ ∀ k, row = some k → base ≤ k) ∧ w.drawn ≤ w'.drawn
theorem Touch.ret {w w' : World} {g base : Nat} (h : Touch w w' g) (hb : base ≤ g) : (∃ row, w.grownBy w' row ∧ ∀ k, row = some k → base ≤ k) ∧ w.drawn ≤ w'.drawn :=
  ⟨⟨some g, h.togrownBy, fun k hk => by injection hk with e; omega⟩, h.drawn⟩
/-- the cells of tuple i, at an offset spelled otherwise -/
theorem Cel.six {w : World} {g cap : Nat} {d : List Tup} (h : Cel w g cap d) {i : Nat} (hi : i < d.length) (o : Nat) (ho : o = i * 6) : Six w g o d[i] := by
  subst ho
  exact six_of h.lt fun c v hv => h.cell hi hv

theorem fin_len {d l : List Tup} {k n : Nat} (hd : d.length = n) (hk : k ≤ n) (h : d.take k = cpt (l.take n)) (hl : l.length = n) : k = (cpt l).length ∧ d.take k = cpt l := by
  rw [List.take_of_length_le (l := l) (by omega)] at h
  have := congrArg List.length h
  rw [List.length_take] at this
  exact ⟨by omega, h⟩
theorem take_set {d : List Tup} {k : Nat} (hk : k < d.length) (x : Tup) : (d.set k x).take (k + 1) = d.take k ++ [x] := by
  rw [List.take_succ_eq_append_getElem (by rw [List.length_set]; exact hk), List.getElem_set_self, List.take_set_of_le (Nat.le_refl _)]
theorem drop_set {d l : List Tup} {k : Nat} (h : d.drop k = l.drop k) (x : Tup) : (d.set k x).drop (k + 1) = l.drop (k + 1) := by
  rw [List.drop_set_of_lt (by omega)]
  have := congrArg (List.drop 1) h
  rwa [List.drop_drop, List.drop_drop] at this
theorem at_drop {d l : List Tup} {k i : Nat} (h : d.drop k = l.drop k) (hk : k ≤ i) (hd : i < d.length) (hl : i < l.length) : d[i] = l[i] := by
  have h1 := congrArg (·[i - k]?) h
  simp only [List.getElem?_drop] at h1
  rw [show k + (i - k) = i by omega, List.getElem?_eq_getElem hd, List.getElem?_eq_getElem hl] at h1
  injection h1


end Go.Proofs.Ytgfgfggoofjeeaa
