/-
  THE CONTRACT of the law's read.
-/
import Derived.Test.YtcdhejaoidjecaaTTc
import Derived.Test.YtcdhejaoidjecaaTSort
import Derived.Test.YtcdhejaoidjecaaTSet
namespace Go.Proofs.Ytcdhejaoidjecaa
open Go.RowKit Go.Sort

theorem rtparse_v (s : ByteArray) (x : Tup) (e : Int) (w : World) (hs : s.size ≤ maxLen) (h : rtup s = (x, e)) :
    Calls Try.prog 31 #[.string s] w fun r w' => r = .returned (.tuple #[val x, .int .i64 e]) ∧ Below w.heap.size w w' := by
  have q := rtparse s w hs; unfold RTupRet at q; rw [h] at q; exact q
theorem tparse_v (s : ByteArray) (x : Tup) (e : Int) (w : World) (hs : s.size ≤ maxLen) (h : ptup s = (x, e)) :
    Calls Try.prog 38 #[.string s] w fun r w' => r = .returned (.tuple #[.agg #[.string x.a, .string x.b, .string x.c, .string x.d, .string x.e, .string x.f], .int .i64 e]) ∧ Below w.heap.size w w' := by
  have q := tparse s w hs; unfold PTupRet at q; rw [h] at q; exact q

set_option maxRecDepth 100000 in
set_option maxHeartbeats 2000000 in
theorem read_v (s : ByteArray) (x : Tup) (e : Int) (w : World) (hs : s.size ≤ maxLen) (h : rtup s = (x, e)) :
    Calls Try.prog 8 #[.string s] w fun r w' => r = .returned (.agg #[.string x.a, .string x.b, .string x.c, .string x.d, .string x.e, .string x.f]) ∧ Below w.heap.size w w' := by
  obtain ⟨a, b, c, d, f, g⟩ := x
  have HS := hid hs; clear hs
  have H := hid h; clear h
  go_enter Try.func8, Try.ntmps8
  go_wp2_with fail
  refine (rtparse_v s ⟨a, b, c, d, f, g⟩ e _ HS.out H.out).mono ?_
  rintro r w1 ⟨rfl, hw1⟩
  have hz1 : w.heap.size < w1.heap.size := by have := hw1.size; simp at this; omega
  have own := own_cells hw1 w.heap.size (by simp)
  have xc0 : w1.cell? ⟨w.heap.size, 0, none⟩ = some (.string ⟨#[]⟩) := (own 0).1.trans (by go_simp)
  have xf0 : w1.frozen? ⟨w.heap.size, 0, none⟩ = false := (own 0).2.trans (by go_simp)
  have xc1 : w1.cell? ⟨w.heap.size, 1, none⟩ = some (.string ⟨#[]⟩) := (own 1).1.trans (by go_simp)
  have xf1 : w1.frozen? ⟨w.heap.size, 1, none⟩ = false := (own 1).2.trans (by go_simp)
  have xc2 : w1.cell? ⟨w.heap.size, 2, none⟩ = some (.string ⟨#[]⟩) := (own 2).1.trans (by go_simp)
  have xf2 : w1.frozen? ⟨w.heap.size, 2, none⟩ = false := (own 2).2.trans (by go_simp)
  have xc3 : w1.cell? ⟨w.heap.size, 3, none⟩ = some (.string ⟨#[]⟩) := (own 3).1.trans (by go_simp)
  have xf3 : w1.frozen? ⟨w.heap.size, 3, none⟩ = false := (own 3).2.trans (by go_simp)
  have xc4 : w1.cell? ⟨w.heap.size, 4, none⟩ = some (.string ⟨#[]⟩) := (own 4).1.trans (by go_simp)
  have xf4 : w1.frozen? ⟨w.heap.size, 4, none⟩ = false := (own 4).2.trans (by go_simp)
  have xc5 : w1.cell? ⟨w.heap.size, 5, none⟩ = some (.string ⟨#[]⟩) := (own 5).1.trans (by go_simp)
  have xf5 : w1.frozen? ⟨w.heap.size, 5, none⟩ = false := (own 5).2.trans (by go_simp)
  clear own
  have hB1 : Below w.heap.size w w1 := g_trans (g_alloc g_refl _) hw1
  clear hw1
  simp only [val]
  go_wp2
  refine bodyPost_ret (v := .agg #[.string a, .string b, .string c, .string d, .string f, .string g]) (by simp [results, Try.results8, go_sem, *]) rfl ⟨rfl, ?_⟩
  repeat (first | (with_reducible refine g_alloc ?_ _) | (with_reducible refine g_set ?_ (Nat.le_refl _) _))
  exact hB1

/-- a list that stands written out -/
theorem lies_lit (w : World) (l : List Tup) (t : TypeId) : Lies (w.alloc (.cells (flat l).toArray t)) w.heap.size 0 l :=
  ⟨by simp, fun i hi c v hv => by
    have h := flat_get l i c hi (enc_lt hv)
    rw [World.cell?_alloc_new, Nat.zero_add, List.getElem?_toArray, h]; exact hv⟩
theorem row_lit (w : World) (l : List Tup) (cs : Array Value) (t : TypeId) (h : (flat l).toArray = cs) : Row (w.alloc (.cells cs t)) (some ⟨w.heap.size, 0, none⟩) l := fun _ => by
  subst h; exact ⟨_, _, rfl, lies_lit w l t⟩

end Go.Proofs.Ytcdhejaoidjecaa
