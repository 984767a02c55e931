/-
  A RESULT THAT IS A FILTER, and three strings, in blocks of their own.
-/
import Derived.Test.YtgfgfggoofjeeaaFTak
namespace Go.Proofs.Ytgfgfggoofjeeaa
open Go.RowKit Go.Sort

def zF : Fil := ⟨⟨#[]⟩, ⟨#[]⟩, ⟨#[]⟩, ⟨#[]⟩, ⟨#[]⟩, ⟨#[]⟩, false⟩
/-- the result's own block, still zero -/
def OZ (w : World) (b : Nat) : Prop :=
  w.cell? ⟨b, 0, none⟩ = some (.string ⟨#[]⟩) ∧ w.cell? ⟨b, 1, none⟩ = some (.string ⟨#[]⟩) ∧ w.cell? ⟨b, 2, none⟩ = some (.string ⟨#[]⟩) ∧ w.cell? ⟨b, 3, none⟩ = some (.string ⟨#[]⟩) ∧ w.cell? ⟨b, 4, none⟩ = some (.string ⟨#[]⟩) ∧ w.cell? ⟨b, 5, none⟩ = some (.string ⟨#[]⟩) ∧ w.cell? ⟨b, 6, none⟩ = some (.bool false) ∧
  w.frozen? ⟨b, 0, none⟩ = false ∧ w.frozen? ⟨b, 1, none⟩ = false ∧ w.frozen? ⟨b, 2, none⟩ = false ∧ w.frozen? ⟨b, 3, none⟩ = false ∧ w.frozen? ⟨b, 4, none⟩ = false ∧ w.frozen? ⟨b, 5, none⟩ = false ∧ w.frozen? ⟨b, 6, none⟩ = false ∧ b < w.heap.size
theorem OZ.keep {w w' : World} {b : Nat} (h : OZ w b) (hb : Below w.heap.size w w') : OZ w' b := by
  obtain ⟨c0, c1, c2, c3, c4, c5, c6, f0, f1, f2, f3, f4, f5, f6, hs⟩ := h
  have o := own_cells hb b hs
  exact ⟨(o _).1.trans c0, (o _).1.trans c1, (o _).1.trans c2, (o _).1.trans c3, (o _).1.trans c4, (o _).1.trans c5, (o _).1.trans c6, (o _).2.trans f0, (o _).2.trans f1, (o _).2.trans f2, (o _).2.trans f3, (o _).2.trans f4, (o _).2.trans f5, (o _).2.trans f6, Nat.lt_of_lt_of_le hs hb.size⟩
theorem set_size (w : World) (a : Addr) (v : Value) : (w.setCell a v).heap.size = w.heap.size := by simp [World.setCell]
theorem set_cell (w : World) {b p o q : Nat} (v : Value) (h : ¬ b = p) : (w.setCell ⟨p, o, none⟩ v).cell? ⟨b, q, none⟩ = w.cell? ⟨b, q, none⟩ := World.cell?_setCell_other w _ _ v (fun e => by injection e with e; exact h e.symm)
theorem set_frozen (w : World) {b p o q : Nat} (v : Value) (_ : ¬ b = p) : (w.setCell ⟨p, o, none⟩ v).frozen? ⟨b, q, none⟩ = w.frozen? ⟨b, q, none⟩ := by simp
theorem FB.set {w : World} {b p o : Nat} {f : Fil} {v : Value} (h : FB w b f) (hn : ¬ b = p) : FB (w.setCell ⟨p, o, none⟩ v) b f := by
  obtain ⟨c0, c1, c2, c3, c4, c5, c6, hs⟩ := h
  have o := fun q => set_cell w (o := o) (q := q) v hn
  exact ⟨(o _).trans c0, (o _).trans c1, (o _).trans c2, (o _).trans c3, (o _).trans c4, (o _).trans c5, (o _).trans c6, by rw [set_size]; exact hs⟩
theorem OZ.set {w : World} {b p o : Nat} {v : Value} (h : OZ w b) (hn : ¬ b = p) : OZ (w.setCell ⟨p, o, none⟩ v) b := by
  obtain ⟨c0, c1, c2, c3, c4, c5, c6, f0, f1, f2, f3, f4, f5, f6, hs⟩ := h
  have k := fun q => set_frozen w (o := o) (q := q) v hn
  have o := fun q => set_cell w (o := o) (q := q) v hn
  exact ⟨(o _).trans c0, (o _).trans c1, (o _).trans c2, (o _).trans c3, (o _).trans c4, (o _).trans c5, (o _).trans c6, (k _).trans f0, (k _).trans f1, (k _).trans f2, (k _).trans f3, (k _).trans f4, (k _).trans f5, (k _).trans f6, by rw [set_size]; exact hs⟩
/-- an array of three strings of one's own -/
def P3 (w : World) (p : Nat) (x y z : ByteArray) : Prop :=
  w.cell? ⟨p, 0, none⟩ = some (.string x) ∧ w.cell? ⟨p, 1, none⟩ = some (.string y) ∧ w.cell? ⟨p, 2, none⟩ = some (.string z) ∧ w.frozen? ⟨p, 0, none⟩ = false ∧ w.frozen? ⟨p, 1, none⟩ = false ∧ w.frozen? ⟨p, 2, none⟩ = false ∧ p < w.heap.size
theorem P3.keep {w w' : World} {p : Nat} {x y z : ByteArray} (h : P3 w p x y z) (hb : Below w.heap.size w w') : P3 w' p x y z := by
  obtain ⟨c0, c1, c2, f0, f1, f2, hs⟩ := h
  have o := own_cells hb p hs
  exact ⟨(o _).1.trans c0, (o _).1.trans c1, (o _).1.trans c2, (o _).2.trans f0, (o _).2.trans f1, (o _).2.trans f2, Nat.lt_of_lt_of_le hs hb.size⟩
theorem P3.s0 {w : World} {p : Nat} {x y z u : ByteArray} (h : P3 w p x y z) : P3 (w.setCell ⟨p, 0, none⟩ (.string u)) p u y z := by
  obtain ⟨c0, c1, c2, f0, f1, f2, hs⟩ := h
  exact ⟨by go_simp, by go_simp, by go_simp, by go_simp, by go_simp, by go_simp, by rw [set_size]; exact hs⟩
theorem P3.s1 {w : World} {p : Nat} {x y z u : ByteArray} (h : P3 w p x y z) : P3 (w.setCell ⟨p, 1, none⟩ (.string u)) p x u z := by
  obtain ⟨c0, c1, c2, f0, f1, f2, hs⟩ := h
  exact ⟨by go_simp, by go_simp, by go_simp, by go_simp, by go_simp, by go_simp, by rw [set_size]; exact hs⟩
theorem P3.s2 {w : World} {p : Nat} {x y z u : ByteArray} (h : P3 w p x y z) : P3 (w.setCell ⟨p, 2, none⟩ (.string u)) p x y u := by
  obtain ⟨c0, c1, c2, f0, f1, f2, hs⟩ := h
  exact ⟨by go_simp, by go_simp, by go_simp, by go_simp, by go_simp, by go_simp, by rw [set_size]; exact hs⟩

end Go.Proofs.Ytgfgfggoofjeeaa
