/-
  THE CONTRACTS of tuples.next, of the closures that choose, and of choose$1.
-/
import Derived.Test.YtgfgfggoofjeeaaTSome
namespace Go.Proofs.Ytgfgfggoofjeeaa
open Go.RowKit Go.Sort

def PairRet (p q : Bool) (w : World) (e : Ending) (w' : World) : Prop := e = .returned (.tuple #[.bool p, .bool q]) ∧ Grew w w'
theorem Lies.six0 {w : World} {b o : Nat} {l : List Tup} (h : Lies w b o l) (hk : 0 < l.length) : Six w b o l[0] := by
  have := h.six hk
  rwa [Nat.zero_mul, Nat.add_zero] at this

/-- what is asked of the function that chooses -/
def Picks (F : Nat) (f : Bool → Bool → Bool) : Prop :=
  (∀ args w, (callFunc F args).run Try.prog w = .ok (.enter F args) w) ∧ ∀ p q w, Calls Try.prog F #[.bool p, .bool q] w fun e w' => e = .returned (.bool (f p q)) ∧ w = w'

/-- what merge finds in memory: the function that chooses, and what was chosen -/
structure St (w : World) (pw po F : Nat) (acc : List Tup) (wr : World) : Prop where
  fn : wr.cell? ⟨pw, 0, none⟩ = some (.func (.func F) #[] #[])
  free : wr.frozen? ⟨po, 0, none⟩ = false
  out : ∃ v, wr.cell? ⟨po, 0, none⟩ = some v ∧ Own wr (po + 1) v acc
  gw : Grew w wr
  room : po + 1 ≤ wr.heap.size
  ord : pw < po
  low : w.heap.size ≤ pw

theorem St.kept {w wr w' : World} {pw po F : Nat} {acc : List Tup} (h : St w pw po F acc wr) (hg : Grew wr w') : St w pw po F acc w' := by
  have hr := h.room
  have ho := h.ord
  have hlo := h.low
  obtain ⟨v, hv, hown⟩ := h.out
  exact ⟨(hg.toBelow.cell (p := ⟨pw, 0, none⟩) (show pw < wr.heap.size by omega)).trans h.fn, (hg.toBelow.frozen (p := ⟨po, 0, none⟩) (show po < wr.heap.size by omega)).trans h.free,
    ⟨v, (hg.toBelow.cell (p := ⟨po, 0, none⟩) (show po < wr.heap.size by omega)).trans hv, hown.gw hg⟩, gw_trans h.gw hg, Nat.le_trans hr hg.size, ho, hlo⟩

def VisitRet (w : World) (pw po F : Nat) (acc : List Tup) (e : Ending) (w' : World) : Prop := e = .returned (.tuple #[]) ∧ St w pw po F acc w'


theorem St.next {w wr w5 : World} {pw po F : Nat} {acc acc' : List Tup} {v v' : Value} (h : St w pw po F acc wr) (hv : wr.cell? ⟨po, 0, none⟩ = some v) (hown : Own wr (po + 1) v acc) (hg : wr.grownBy w5 v.ownBlock) (hd : wr.drawn ≤ w5.drawn) (hn : Own w5 (po + 1) v' acc') :
    w5.cell? ⟨po, 0, none⟩ = some v ∧ w5.frozen? ⟨po, 0, none⟩ = false ∧ St w pw po F acc' (w5.setCell ⟨po, 0, none⟩ v') := by
  have hr := h.room
  have ho := h.ord
  have hlo := h.low
  have ne : ∀ k, k < po + 1 → some k ≠ v.ownBlock := fun k hk e => by have := (hown.lt k e.symm).1; omega
  have b1 := hg.block po (by omega) (ne _ (by omega))
  have b0 := hg.block pw (by omega) (ne _ (by omega))
  have c1 : w5.cell? ⟨po, 0, none⟩ = some v := (World.cell?_of_block (w := wr) (a := ⟨po, 0, none⟩) b1).trans hv
  have f1 : w5.frozen? ⟨po, 0, none⟩ = false := (World.frozen?_of_block (w := wr) (a := ⟨po, 0, none⟩) b1).trans h.free
  have c0 : w5.cell? ⟨pw, 0, none⟩ = some (.func (.func F) #[] #[]) := (World.cell?_of_block (w := wr) (a := ⟨pw, 0, none⟩) b0).trans h.fn
  have hG : Grew w w5 := gw_grown h.gw hg hd fun k hk => by have := (hown.lt k hk).1; omega
  refine ⟨c1, f1, ?_, ?_, ⟨v', ?_, ownsRow_setCell_below hn (show po < po + 1 by omega) v'⟩, gw_set hG (show w.heap.size ≤ po by omega) v', ?_, ho, hlo⟩
  · rw [← c0]; exact World.cell?_setCell_other w5 _ _ v' (fun e => by injection e with e; omega)
  · simpa using f1
  · go_simp
  · have := hg.size
    simp [World.setCell]; omega


end Go.Proofs.Ytgfgfggoofjeeaa
