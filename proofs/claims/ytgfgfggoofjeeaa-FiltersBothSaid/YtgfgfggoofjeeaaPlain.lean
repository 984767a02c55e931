/-
  PLAIN FACTS about names (bytes of a name, the error of a name), without the program. Own work; nothing of the kit.
-/
import Derived.WalkKit
import Derived.Deep.QuietTactic
namespace Go.Proofs.Ytgfgfggoofjeeaa

theorem hid {p : Prop} (h : p) : RowKit.Hid p := h
/-- a byte of a name -/
def nameByte (c : UInt8) : Bool := (97 ≤ c.toNat && c.toNat ≤ 122) || (48 ≤ c.toNat && c.toNat ≤ 57)
/-- a name: from 1 to 16 bytes, each a byte of a name -/
def isName (l : List UInt8) : Bool := 1 ≤ l.length && l.length ≤ 16 && l.all nameByte
/-- the number of the error of a name -/
def chk (l : List UInt8) : Int := if isName l then 0 else 6

theorem nb_true (c : UInt8) (h : (97 ≤ (c.toNat : Int) ∧ (c.toNat : Int) ≤ 122) ∨ (48 ≤ (c.toNat : Int) ∧ (c.toNat : Int) ≤ 57)) : nameByte c = true := by
  unfold nameByte; simp; omega
theorem nb_false (c : UInt8) (h : ¬ ((97 ≤ (c.toNat : Int) ∧ (c.toNat : Int) ≤ 122) ∨ (48 ≤ (c.toNat : Int) ∧ (c.toNat : Int) ≤ 57))) : nameByte c = false := by
  unfold nameByte; simp; omega
theorem take_snoc (s : ByteArray) (k : Nat) (h : k < s.size) : s.data.toList.take (k + 1) = s.data.toList.take k ++ [s[k]] := by
  rw [List.take_succ_eq_append_getElem (by simpa using h)]; rfl
theorem length_data (s : ByteArray) : s.data.toList.length = s.size := by simp
theorem ret_int {k : IntKind} {a b : Int} (h : a = b) : Ending.returned (.int k a) = .returned (.int k b) := by rw [h]
theorem all_snoc (s : ByteArray) (k : Nat) (h : k < s.size) (ha : (s.data.toList.take k).all nameByte = true) (hb : nameByte s[k] = true) : (s.data.toList.take (k + 1)).all nameByte = true := by
  rw [take_snoc s k h, List.all_append, ha]; simp [hb]
theorem chk_long (s : ByteArray) (h : s.size < 1 ∨ 16 < s.size) : chk s.data.toList = 6 := by
  unfold chk isName; rw [if_neg]; simp; intro h1 h2; omega
theorem chk_bad (s : ByteArray) (k : Nat) (h : k < s.size) (hb : nameByte s[k] = false) : chk s.data.toList = 6 := by
  unfold chk isName; rw [if_neg]
  intro hx; simp only [Bool.and_eq_true, List.all_eq_true] at hx
  have := hx.2 s[k] (by simp [ByteArray.getElem_eq_getElem_data])
  rw [hb] at this; cases this
theorem chk_good (s : ByteArray) (h1 : 1 ≤ s.size) (h2 : s.size ≤ 16) (ha : (s.data.toList.take s.size).all nameByte = true) : chk s.data.toList = 0 := by
  unfold chk isName; rw [if_pos]
  rw [List.take_of_length_le (by simp)] at ha
  simp [ha, h1, h2]

open RowKit in
theorem bcell {W w1 : World} (hb : Below W.heap.size W w1) : (∀ b o, b < W.heap.size → w1.cell? ⟨b, o, none⟩ = W.cell? ⟨b, o, none⟩) ∧ (∀ b o, b < W.heap.size → w1.frozen? ⟨b, o, none⟩ = W.frozen? ⟨b, o, none⟩) :=
  ⟨fun b o h => hb.cell (p := ⟨b, o, none⟩) h, fun b o h => hb.frozen (p := ⟨b, o, none⟩) h⟩

section
open RowKit
variable {a b c : World}
theorem g_refl : Below a.heap.size a a := Below.refl _ _
theorem g_trans (h : Below a.heap.size a b) (k : Below b.heap.size b c) : Below a.heap.size a c := h.trans (k.mono h.size)
theorem g_alloc (h : Below a.heap.size a b) (o : Obj) : Below a.heap.size a (b.alloc o) := h.alloc h.size o
theorem g_drew (h : Below a.heap.size a b) : Below a.heap.size a b.drew := h.drew
theorem g_drewN (h : Below a.heap.size a b) (n : Nat) : Below a.heap.size a (b.drewN n) := ⟨h.os, h.tape, h.output, h.size, h.block⟩
theorem g_set (h : Below a.heap.size a b) {p : Addr} (hp : a.heap.size ≤ p.block) (u : Value) : Below a.heap.size a (b.setCell p u) := h.setCell hp u
end

open RowKit in
/-- behind a call: a block of one's own, which lay before it, reads as it was, and may be written -/
theorem own_cells {W w1 : World} (hb : Below W.heap.size W w1) (b : Nat) (h : b < W.heap.size) :
    ∀ o : Nat, w1.cell? ⟨b, o, none⟩ = W.cell? ⟨b, o, none⟩ ∧ w1.frozen? ⟨b, o, none⟩ = W.frozen? ⟨b, o, none⟩ :=
  fun o => ⟨hb.cell (p := ⟨b, o, none⟩) h, hb.frozen (p := ⟨b, o, none⟩) h⟩

end Go.Proofs.Ytgfgfggoofjeeaa
