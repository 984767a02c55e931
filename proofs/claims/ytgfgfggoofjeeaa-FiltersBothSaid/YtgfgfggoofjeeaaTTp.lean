/-
  THE CONTRACT of tuples.Parse; the texts of tuples; Check.
-/
import Derived.Test.YtgfgfggoofjeeaaTTup
import Derived.Test.YtgfgfggoofjeeaaWText
namespace Go.Proofs.Ytgfgfggoofjeeaa
open Go.RowKit Go.Sort

/-- the tuple of a text, and the number of the error, as the program has them -/
def ptup (s : ByteArray) : Tup × Int :=
  if (cutB s 64).2.2 = false ∨ 0 ≤ Lib.indexByte (cutB s 64).2.1.data.toList 64 then (default, 5)
  else if ¬ (parseF (cutB s 64).1 1 1).2.2.2 = 0 then (default, (parseF (cutB s 64).1 1 1).2.2.2)
  else if ¬ (parseF (cutB s 64).2.1 0 1).2.2.2 = 0 then (default, (parseF (cutB s 64).2.1 0 1).2.2.2)
  else (⟨(parseF (cutB s 64).1 1 1).1, (parseF (cutB s 64).1 1 1).2.1, (parseF (cutB s 64).1 1 1).2.2.1, (parseF (cutB s 64).2.1 0 1).1, (parseF (cutB s 64).2.1 0 1).2.1, (parseF (cutB s 64).2.1 0 1).2.2.1⟩, 0)
def PTupRet (s : ByteArray) (w : World) (e : Ending) (w' : World) : Prop := e = .returned (.tuple #[val (ptup s).1, .int .i64 (ptup s).2]) ∧ Below w.heap.size w w'
theorem cut_v (s x y : ByteArray) (c : UInt8) (b : Bool) (w : World) (hs : s.size ≤ maxLen) (h : cutB s c = (x, y, b)) :
    Calls Try.prog 68 #[.string s, .string ⟨#[c]⟩] w fun e w' => e = .returned (.tuple #[.string x, .string y, .bool b]) ∧ ∃ n, w' = w.drewN n := by
  have q := cut_any s c w hs; unfold CutRet at q; rw [h] at q; exact q
theorem parseSubject_v (s a b c : ByteArray) (e : Int) (w : World) (hs : s.size ≤ maxLen) (h : parseF s 0 1 = (a, b, c, e)) :
    Calls Try.prog 71 #[.string s] w fun r w' => r = .returned (.tuple #[.agg #[.string a, .string b, .string c], .int .i64 e]) ∧ Below w.heap.size w w' := by
  have q := parseSubject_any s w hs; unfold SubjectRet at q; rw [h] at q; exact q


end Go.Proofs.Ytgfgfggoofjeeaa
