/-
  A READER IN MEMORY, and what a call on it leaves as it was.
-/
import Derived.Test.YtohnhjmiblgkkaaCMath
import Derived.Maps.AppendAt
import Derived.Maps.RangeWalk
import Derived.Deep.AppendLies
import Derived.OwnWalk
namespace Go.Proofs.Ytohnhjmiblgkkaa
open Go.RowKit

/-- the bytes of a list, at the head of block g -/
def Dat (w : World) (g : Nat) (L : List UInt8) : Prop := (g < w.heap.size ∧ ∀ i, w.frozen? ⟨g, i, none⟩ = false) ∧ ∀ i (h : i < L.length), w.cell? ⟨g, i, none⟩ = some (.int .u8 L[i].toNat)
/-- the slice value with address A reads as L -/
def Byt (w : World) (A : Option Addr) (L : List UInt8) : Prop := L ≠ [] → ∃ g, A = some ⟨g, 0, none⟩ ∧ Dat w g L
theorem Dat.keep {w w' : World} {g : Nat} {L : List UInt8} (h : Dat w g L) (hs : w.heap.size ≤ w'.heap.size) (hb : w'.heap[g]? = w.heap[g]?) : Dat w' g L :=
  ⟨⟨Nat.lt_of_lt_of_le h.1.1 hs, fun i => (World.frozen?_of_block (w := w) (a := ⟨g, i, none⟩) hb).trans (h.1.2 i)⟩, fun i hi => (World.cell?_of_block (w := w) (a := ⟨g, i, none⟩) hb).trans (h.2 i hi)⟩
theorem Byt.below {w w' : World} {A : Option Addr} {L : List UInt8} (h : Byt w A L) (hb : Below w.heap.size w w') : Byt w' A L := fun hn => by
  obtain ⟨g, e, hd⟩ := h hn
  exact ⟨g, e, hd.keep hb.size (hb.block g hd.1.1)⟩
theorem Byt.nil (w : World) (A : Option Addr) : Byt w A [] := fun h => absurd rfl h

/-- a reader at block r: its bytes, its place, its fault -/
structure RS (w : World) (r : Nat) (A : Option Addr) (L : List UInt8) (s : St) : Prop where
  c0 : w.cell? ⟨r, 0, none⟩ = some (.slice A L.length L.length)
  c1 : w.cell? ⟨r, 1, none⟩ = some (.int .i64 s.at_)
  c2 : w.cell? ⟨r, 2, none⟩ = some (.int .i64 s.fa)
  c3 : w.cell? ⟨r, 3, none⟩ = some (.int .i64 s.fe)
  f : ∀ i, w.frozen? ⟨r, i, none⟩ = false
  lt : r < w.heap.size
  dat : Byt w A L
  far : L ≠ [] → ∀ a, A = some a → a.block ≠ r
  ok : s.ok L
  lim : L.length ≤ 1000000

theorem gb_below {w w' : World} {r : Nat} (h : Below w.heap.size w w') : w.grownBy w' (some r) := ⟨h.os, h.tape, h.output, h.size, fun k hk _ => h.block k hk⟩
theorem gb_set (w : World) (r o : Nat) (v : Value) : w.grownBy (w.setCell ⟨r, o, none⟩ v) (some r) :=
  ⟨rfl, rfl, rfl, by simp [World.setCell], fun k _ hk => Below.heap_setCell w ⟨r, o, none⟩ v k (fun e => hk (by rw [e]))⟩
theorem gb_to_below {a w w' : World} {r : Nat} (h : Below a.heap.size a w) (hg : w.grownBy w' (some r)) (hr : a.heap.size ≤ r) : Below a.heap.size a w' :=
  h.grown hg h.size (fun k hk => by injection hk with e; omega)

section
variable {w w' : World} {r q : Nat} {A : Option Addr} {L : List UInt8} {s : St}
theorem RS.keep (h : RS w r A L s) (hs : w.heap.size ≤ w'.heap.size) (hb : ∀ k, k < w.heap.size → (k = r ∨ (L ≠ [] ∧ ∃ a, A = some a ∧ a.block = k)) → w'.heap[k]? = w.heap[k]?) : RS w' r A L s := by
  have hr := hb r h.lt (.inl rfl)
  refine ⟨?_, ?_, ?_, ?_, fun i => ?_, Nat.lt_of_lt_of_le h.lt hs, fun hn => ?_, h.far, h.ok, h.lim⟩
  · exact (World.cell?_of_block (w := w) (a := ⟨r, 0, none⟩) hr).trans h.c0
  · exact (World.cell?_of_block (w := w) (a := ⟨r, 1, none⟩) hr).trans h.c1
  · exact (World.cell?_of_block (w := w) (a := ⟨r, 2, none⟩) hr).trans h.c2
  · exact (World.cell?_of_block (w := w) (a := ⟨r, 3, none⟩) hr).trans h.c3
  · exact (World.frozen?_of_block (w := w) (a := ⟨r, i, none⟩) hr).trans (h.f i)
  · obtain ⟨g, e, hd⟩ := h.dat hn
    exact ⟨g, e, hd.keep hs (hb g hd.1.1 (.inr ⟨hn, _, e, rfl⟩))⟩
theorem RS.below (h : RS w r A L s) (hb : Below w.heap.size w w') : RS w' r A L s := h.keep hb.size fun k hk _ => hb.block k hk
/-- another block was written -/
theorem RS.other (h : RS w r A L s) (hg : w.grownBy w' (some q)) (h1 : r ≠ q) (h2 : L ≠ [] → ∀ a, A = some a → a.block ≠ q) : RS w' r A L s :=
  h.keep hg.size fun k hk hc => hg.block k hk (fun e => by
    injection e with e; subst e
    rcases hc with hc | ⟨hn, a, ha, hc⟩
    · exact h1 hc.symm
    · exact h2 hn a ha hc)
theorem ne_off {r i j : Nat} (h : i ≠ j) : (⟨r, i, none⟩ : Addr) ≠ ⟨r, j, none⟩ := fun e => h (by injection e)
theorem ne_blk {r g i j : Nat} (h : r ≠ g) : (⟨r, i, none⟩ : Addr) ≠ ⟨g, j, none⟩ := fun e => h (by injection e)
/-- the place is set -/
theorem RS.at1 (h : RS w r A L s) (n : Nat) (hn : n ≤ L.length) : RS (w.setCell ⟨r, 1, none⟩ (.int .i64 n)) r A L ⟨n, s.fa, s.fe⟩ := by
  refine ⟨?_, ?_, ?_, ?_, fun i => ?_, by simpa [World.setCell] using h.lt, fun hne => ?_, h.far, ⟨hn, h.ok.2⟩, h.lim⟩
  · rw [World.cell?_setCell_other _ _ _ _ (ne_off (by decide))]; exact h.c0
  · exact World.cell?_setCell_same _ _ _ h.c1
  · rw [World.cell?_setCell_other _ _ _ _ (ne_off (by decide))]; exact h.c2
  · rw [World.cell?_setCell_other _ _ _ _ (ne_off (by decide))]; exact h.c3
  · rw [World.frozen?_setCell]; exact h.f i
  · obtain ⟨g, e, hd⟩ := h.dat hne
    have hg : r ≠ g := fun e2 => h.far hne _ e (by rw [e2])
    exact ⟨g, e, ⟨by simpa [World.setCell] using hd.1.1, fun i => by simp only [World.frozen?_setCell]; exact hd.1.2 i⟩, fun i hi => by rw [World.cell?_setCell_other _ _ _ _ (ne_blk hg)]; exact hd.2 i hi⟩
/-- the fault is set -/
theorem RS.flt (h : RS w r A L s) (a e : Int) (ha : e = 0 → a = 0) : RS ((w.setCell ⟨r, 2, none⟩ (.int .i64 a)).setCell ⟨r, 3, none⟩ (.int .i64 e)) r A L ⟨s.at_, a, e⟩ := by
  refine ⟨?_, ?_, ?_, ?_, fun i => ?_, by simpa [World.setCell] using h.lt, fun hne => ?_, h.far, ⟨h.ok.1, ha⟩, h.lim⟩
  · rw [World.cell?_setCell_other _ _ _ _ (ne_off (by decide)), World.cell?_setCell_other _ _ _ _ (ne_off (by decide))]; exact h.c0
  · rw [World.cell?_setCell_other _ _ _ _ (ne_off (by decide)), World.cell?_setCell_other _ _ _ _ (ne_off (by decide))]; exact h.c1
  · rw [World.cell?_setCell_other _ _ _ _ (ne_off (by decide))]; exact World.cell?_setCell_same _ _ _ h.c2
  · exact World.cell?_setCell_same _ _ _ ((World.cell?_setCell_other _ _ _ _ (ne_off (by decide))).trans h.c3)
  · rw [World.frozen?_setCell, World.frozen?_setCell]; exact h.f i
  · obtain ⟨g, e, hd⟩ := h.dat hne
    have hg : r ≠ g := fun e2 => h.far hne _ e (by rw [e2])
    exact ⟨g, e, ⟨by simpa [World.setCell] using hd.1.1, fun i => by simp only [World.frozen?_setCell]; exact hd.1.2 i⟩, fun i hi => by rw [World.cell?_setCell_other _ _ _ _ (ne_blk hg), World.cell?_setCell_other _ _ _ _ (ne_blk hg)]; exact hd.2 i hi⟩
end
end Go.Proofs.Ytohnhjmiblgkkaa
