/-
  THE CONTRACTS of Text, GoalText, SubjectText, and of the reference's: the texts of the definition; what lay below stands.
-/
import Derived.Test.YtgfgfggoofjeeaaGreatWAll
namespace Go.Proofs.YtgfgfggoofjeeaaGreat
open Go.RowKit

/-- the text of an object -/
def txt (a b : ByteArray) : ByteArray := a ++ ⟨#[58]⟩ ++ b
/-- the text of a goal -/
def gtxt (a b c : ByteArray) : ByteArray := a ++ ⟨#[58]⟩ ++ b ++ ⟨#[35]⟩ ++ c
/-- the text of a subject -/
def stxt (a b c : ByteArray) : ByteArray := if c.toList.isEmpty then txt a b else gtxt a b c
theorem txt_size (a b : ByteArray) (ha : a.size ≤ 40) (hb : b.size ≤ 40) : (txt a b).size ≤ 81 := by
  unfold txt; rw [ByteArray.size_append, ByteArray.size_append]; have : (ByteArray.mk #[58]).size = 1 := rfl; omega
theorem stxt_empty {a b c : ByteArray} (h : c.toList.isEmpty = true) : stxt a b c = txt a b := by unfold stxt; rw [if_pos h]
theorem stxt_full {a b c : ByteArray} (h : c.toList.isEmpty = false) : stxt a b c = gtxt a b c := by unfold stxt; rw [if_neg (by rw [h]; decide)]
theorem empty_size {c : ByteArray} (h : c.toList.isEmpty = true) : ((c.size : Int) == 0) = true := by
  rw [ByteArray.toList_eq, List.isEmpty_iff] at h
  have := congrArg List.length h
  exact beq_iff_eq.2 (by simpa using this)
theorem full_size {c : ByteArray} (h : c.toList.isEmpty = false) : ((c.size : Int) == 0) = false := by
  rw [ByteArray.toList_eq, List.isEmpty_eq_false_iff] at h
  refine beq_eq_false_iff_ne.2 (fun e => h (List.eq_nil_of_length_eq_zero ?_))
  simpa using e



end Go.Proofs.YtgfgfggoofjeeaaGreat
