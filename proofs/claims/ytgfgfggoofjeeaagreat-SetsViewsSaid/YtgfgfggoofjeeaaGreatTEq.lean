/-
  THE CONTRACT of slices.Equal at tuples.
-/
import Derived.Test.YtgfgfggoofjeeaaGreatTRow
namespace Go.Proofs.YtgfgfggoofjeeaaGreat
open Go.RowKit Go.Sort

theorem eq_len {l m : List Tup} (h : ¬ l.length = m.length) : decide (l = m) = false := decide_eq_false (fun e => h (by rw [e]))
theorem eq_no {l m : List Tup} {k : Nat} (hl : k < l.length) (hm : k < m.length) (hv : decide (l[k] = m[k]) = false) : decide (l = m) = false :=
  decide_eq_false (fun e => by subst e; simp at hv)
theorem eq_yes {l m : List Tup} {k : Nat} (hk : ¬ k < l.length) (he : l.length = m.length) (h : l.take k = m.take k) : decide (l = m) = true := by
  rw [List.take_of_length_le (by omega), List.take_of_length_le (by omega)] at h
  exact decide_eq_true h


end Go.Proofs.YtgfgfggoofjeeaaGreat
