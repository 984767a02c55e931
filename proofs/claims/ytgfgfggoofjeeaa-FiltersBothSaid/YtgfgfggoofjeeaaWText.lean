/-
  THE CONTRACTS of Text, GoalText, SubjectText, and of the reference's: the texts of the definition; what lay below stands.
-/
import Derived.Test.YtgfgfggoofjeeaaWAll
namespace Go.Proofs.Ytgfgfggoofjeeaa
open Go.RowKit

/-- the text of an object -/
def txt (a b : ByteArray) : ByteArray := a ++ ⟨#[58]⟩ ++ b
/-- the text of a goal -/
def gtxt (a b c : ByteArray) : ByteArray := a ++ ⟨#[58]⟩ ++ b ++ ⟨#[35]⟩ ++ c
/-- the text of a subject -/
def stxt (a b c : ByteArray) : ByteArray := if c.toList.isEmpty then txt a b else gtxt a b c
theorem txt_size (a b : ByteArray) (ha : a.size ≤ 40) (hb : b.size ≤ 40) : (txt a b).size ≤ 81 := by
  unfold txt; rw [ByteArray.size_append, ByteArray.size_append]; have : (ByteArray.mk #[58]).size = 1 := rfl; omega
theorem stxt_empty {a b c : ByteArray} (h : c.toList.isEmpty = true) : stxt a b c = txt a b := by unfold stxt; rw [if_pos h]
theorem stxt_full {a b c : ByteArray} (h : c.toList.isEmpty = false) : stxt a b c = gtxt a b c := by unfold stxt; rw [if_neg (by rw [h]; decide)]
theorem empty_size {c : ByteArray} (h : c.toList.isEmpty = true) : ((c.size : Int) == 0) = true := by
  rw [ByteArray.toList_eq, List.isEmpty_iff] at h
  have := congrArg List.length h
  exact beq_iff_eq.2 (by simpa using this)
theorem full_size {c : ByteArray} (h : c.toList.isEmpty = false) : ((c.size : Int) == 0) = false := by
  rw [ByteArray.toList_eq, List.isEmpty_eq_false_iff] at h
  refine beq_eq_false_iff_ne.2 (fun e => h (List.eq_nil_of_length_eq_zero ?_))
  simpa using e

set_option maxHeartbeats 400000 in
theorem text_any (a b : ByteArray) (w : World) (ha : a.size ≤ 40) (hb : b.size ≤ 40) :
    Calls Try.prog 97 #[.agg #[.string a, .string b]] w fun e w' => e = .returned (.string (txt a b)) ∧ Below w.heap.size w w' := by
  go_enter Try.func97, Try.ntmps97
  go_wp2
  go_ret
  exact ⟨rfl, g_alloc g_refl _⟩

set_option maxHeartbeats 800000 in
theorem gtext_any (a b c : ByteArray) (w : World) (ha : a.size ≤ 40) (hb : b.size ≤ 40) (hc : c.size ≤ 40) :
    Calls Try.prog 73 #[.agg #[.string a, .string b, .string c]] w fun e w' => e = .returned (.string (gtxt a b c)) ∧ Below w.heap.size w w' := by
  have ht := txt_size a b ha hb
  have ht1 : ¬ 9223372036854775807 < (txt a b).size + 1 := by omega
  have ht2 : ¬ 9223372036854775807 < (txt a b).size + 1 + c.size := by omega
  go_enter Try.func73, Try.ntmps73
  go_wp2_with fail
  go_region_held3 (fun w' => w'.cell? ⟨w.heap.size, 0, none⟩ = some (.string a) ∧ w'.cell? ⟨w.heap.size, 1, none⟩ = some (.string b) ∧ w'.cell? ⟨w.heap.size, 2, none⟩ = some (.string c)) (go_keep)
    (first | (go_at_call 97; refine (text_any _ _ _ ha hb).mono ?_; rintro e w' ⟨rfl, hw⟩; obtain ⟨hcc, -⟩ := bcell hw))
  go_wp2
  go_ret
  exact ⟨rfl, g_trans (g_drew (g_alloc g_refl _)) hw⟩
set_option maxHeartbeats 800000 in
theorem stext_any (a b c : ByteArray) (w : World) (ha : a.size ≤ 40) (hb : b.size ≤ 40) (hc : c.size ≤ 40) :
    Calls Try.prog 74 #[.agg #[.string a, .string b, .string c]] w fun e w' => e = .returned (.string (stxt a b c)) ∧ Below w.heap.size w w' := by
  cases hz : c.toList.isEmpty
  · have E := hid (stxt_full (a := a) (b := b) hz)
    have ht := txt_size a b ha hb
    have ht1 : ¬ 9223372036854775807 < (txt a b).size + 1 := by omega
    have ht2 : ¬ 9223372036854775807 < (txt a b).size + 1 + c.size := by omega
    go_enter Try.func74, Try.ntmps74
    go_wp2_with fail
    go_region_held3 (fun w' => w'.cell? ⟨w.heap.size, 0, none⟩ = some (.string a) ∧ w'.cell? ⟨w.heap.size, 1, none⟩ = some (.string b) ∧ w'.cell? ⟨w.heap.size, 2, none⟩ = some (.string c)) (go_keep)
      (first | (go_at_call 97; refine (text_any _ _ _ ha hb).mono ?_; rintro e w' ⟨rfl, hw⟩; obtain ⟨hcc, -⟩ := bcell hw))
    go_wp2
    go_ret
    exact ⟨by rw [E.out]; rfl, g_trans (g_drew (g_alloc g_refl _)) hw⟩
  · have E := hid (stxt_empty (a := a) (b := b) hz)
    go_enter Try.func74, Try.ntmps74
    go_wp2_with fail
    refine (text_any _ _ _ ha hb).mono ?_
    rintro e w' ⟨rfl, hw⟩
    go_wp2
    go_ret
    exact ⟨by rw [E.out]; rfl, g_trans (g_alloc g_refl _) hw⟩

end Go.Proofs.Ytgfgfggoofjeeaa
