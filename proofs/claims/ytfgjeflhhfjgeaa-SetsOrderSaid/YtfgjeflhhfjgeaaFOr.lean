/-
  THE CONTRACTS of cmp.Or at strings, at errors and at subjects.
-/
import Derived.Test.YtfgjeflhhfjgeaaFTak
import Derived.Test.YtfgjeflhhfjgeaaTOf
namespace Go.Proofs.Ytfgjeflhhfjgeaa
open Go.RowKit Go.Sort

/-- the first one that is not empty -/
def orS (a b : ByteArray) : ByteArray := if a.toList.isEmpty then b else a
theorem orS_e {a b : ByteArray} (h : a.toList.isEmpty = true) : orS a b = b := by unfold orS; rw [if_pos h]
theorem orS_n {a b : ByteArray} (h : a.toList.isEmpty = false) : orS a b = a := by unfold orS; rw [if_neg (by rw [h]; decide)]

/-- the first one that is not 0 -/
def orI (a b : Int) : Int := if a = 0 then b else a

theorem nz_cases (d e f : ByteArray) : (d.toList.isEmpty = true ∧ e.toList.isEmpty = true ∧ f.toList.isEmpty = true) ∨ d.toList.isEmpty = false ∨ (d.toList.isEmpty = true ∧ e.toList.isEmpty = false) ∨ (d.toList.isEmpty = true ∧ e.toList.isEmpty = true ∧ f.toList.isEmpty = false) := by
  cases d.toList.isEmpty <;> cases e.toList.isEmpty <;> cases f.toList.isEmpty <;> simp
/-- the first subject that is one -/
def orU (x y : ByteArray × ByteArray × ByteArray) : ByteArray × ByteArray × ByteArray := if x.1.toList.isEmpty && x.2.1.toList.isEmpty && x.2.2.toList.isEmpty then y else x
theorem orU_e {d e f : ByteArray} {y : ByteArray × ByteArray × ByteArray} (h1 : d.toList.isEmpty = true) (h2 : e.toList.isEmpty = true) (h3 : f.toList.isEmpty = true) : orU (d, e, f) y = y := by unfold orU; rw [if_pos (by simp [h1, h2, h3])]
theorem orU_n {d e f : ByteArray} {y : ByteArray × ByteArray × ByteArray} (h : (d.toList.isEmpty && e.toList.isEmpty && f.toList.isEmpty) = false) : orU (d, e, f) y = (d, e, f) := by unfold orU; rw [if_neg (by rw [h]; decide)]
end Go.Proofs.Ytfgjeflhhfjgeaa
