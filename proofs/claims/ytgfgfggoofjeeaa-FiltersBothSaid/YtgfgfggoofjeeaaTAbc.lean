/-
  THREE TUPLES OF THE EXAMPLES; the reference's Parse in short words.
-/
import Derived.Test.YtgfgfggoofjeeaaTTc
import Derived.Test.YtgfgfggoofjeeaaTCel
import Derived.Test.YtgfgfggoofjeeaaTOwn
namespace Go.Proofs.Ytgfgfggoofjeeaa
open Go.RowKit Go.Sort

theorem rtparse_v (s : ByteArray) (x : Tup) (e : Int) (w : World) (hs : s.size ≤ maxLen) (h : rtup s = (x, e)) :
    Calls Try.prog 49 #[.string s] w fun r w' => r = .returned (.tuple #[val x, .int .i64 e]) ∧ Below w.heap.size w w' := by
  have q := rtparse s w hs; unfold RTupRet at q; rw [h] at q; exact q
def tA : Tup := ⟨⟨#[97]⟩, ⟨#[120]⟩, ⟨#[114]⟩, ⟨#[117]⟩, ⟨#[97]⟩, ⟨#[]⟩⟩
def tB : Tup := ⟨⟨#[97]⟩, ⟨#[120]⟩, ⟨#[114]⟩, ⟨#[117]⟩, ⟨#[98]⟩, ⟨#[]⟩⟩
def tC : Tup := ⟨⟨#[98]⟩, ⟨#[120]⟩, ⟨#[114]⟩, ⟨#[117]⟩, ⟨#[97]⟩, ⟨#[]⟩⟩
theorem lrA : rtup ⟨#[97, 58, 120, 35, 114, 64, 117, 58, 97]⟩ = (tA, 0) := by decide +kernel
theorem lrB : rtup ⟨#[97, 58, 120, 35, 114, 64, 117, 58, 98]⟩ = (tB, 0) := by decide +kernel
theorem lrC : rtup ⟨#[98, 58, 120, 35, 114, 64, 117, 58, 97]⟩ = (tC, 0) := by decide +kernel
/-- a list that stands written out -/
theorem lies_lit (w : World) (l : List Tup) (t : TypeId) : Lies (w.alloc (.cells (flat l).toArray t)) w.heap.size 0 l :=
  ⟨by simp, fun i hi c v hv => by
    have h := flat_get l i c hi (enc_lt hv)
    rw [World.cell?_alloc_new, Nat.zero_add, List.getElem?_toArray, h]; exact hv⟩
theorem row_lit (w : World) (l : List Tup) (cs : Array Value) (t : TypeId) (h : (flat l).toArray = cs) : Row (w.alloc (.cells cs t)) (some ⟨w.heap.size, 0, none⟩) l := fun _ => by
  subst h; exact ⟨_, _, rfl, lies_lit w l t⟩

theorem row_new (w : World) (b : Nat) (hb : b = w.heap.size) (l : List Tup) (cs : Array Value) (t : TypeId) (h : (flat l).toArray = cs) : Row (w.alloc (.cells cs t)) (some ⟨b, 0, none⟩) l := by
  subst hb; exact row_lit w l cs t h

end Go.Proofs.Ytgfgfggoofjeeaa
