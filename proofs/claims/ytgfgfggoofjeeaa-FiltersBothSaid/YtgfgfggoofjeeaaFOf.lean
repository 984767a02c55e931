/-
  THE CONTRACT of the law's F.Of.
-/
import Derived.Test.YtgfgfggoofjeeaaFTak
import Derived.Test.YtgfgfggoofjeeaaTOf
namespace Go.Proofs.Ytgfgfggoofjeeaa
open Go.RowKit Go.Sort
/-- is a bit set? -/
def bitF (n : Nat) (k : Int) : Bool := bits BinOp.and IntKind.u8 (n : Int) k == k
def pick (u : Bool) (s : ByteArray) : ByteArray := if u then s else ⟨#[]⟩
/-- the filter of a tuple and of bits -/
def ofB (t : Tup) (u0 u1 u2 u3 : Bool) : Fil := ⟨pick u0 t.a, pick u1 t.b, pick u2 t.c, pick u3 t.d, pick u3 t.e, pick u3 t.f, u3⟩
def ofF (p q n : Nat) : Fil := ofB (one p q) (bitF n 1) (bitF n 2) (bitF n 4) (bitF n 8)

set_option maxRecDepth 20000 in
set_option maxHeartbeats 1000000 in
theorem ofF_0000 (p q n : Nat) (a b c d e f : ByteArray) (w : World) (hp : p < 256) (hq : q < 256) (ho : one p q = ⟨a, b, c, d, e, f⟩) (h0 : (bits BinOp.and IntKind.u8 (n : Int) 1 == 1) = false) (h1 : (bits BinOp.and IntKind.u8 (n : Int) 2 == 2) = false) (h2 : (bits BinOp.and IntKind.u8 (n : Int) 4 == 4) = false) (h3 : (bits BinOp.and IntKind.u8 (n : Int) 8 == 8) = false) :
    Calls Try.prog 7 #[.agg #[.int .u8 p, .int .u8 q, .int .u8 n]] w fun r w' => r = .returned (.agg #[.string ⟨#[]⟩, .string ⟨#[]⟩, .string ⟨#[]⟩, .string ⟨#[]⟩, .string ⟨#[]⟩, .string ⟨#[]⟩, .bool false]) ∧ Grew w w' := by
  have HO := hid ho; clear ho
  go_enter Try.func7, Try.ntmps7
  go_wp2_with fail
  refine (one_any p q _ hp hq).mono ?_
  rintro r w1 ⟨rfl, hw1⟩
  rw [HO.out]
  simp only [val]
  have c2 : w1.cell? ⟨w.heap.size, 2, none⟩ = some (.int .u8 n) := (own_cells hw1.toBelow _ (by simp <;> omega) _).1.trans (by go_simp)
  have own := own_cells hw1.toBelow (w.heap.size + 1) (by simp)
  have xc0 : w1.cell? ⟨w.heap.size + 1, 0, none⟩ = some (.string ⟨#[]⟩) := (own 0).1.trans (by go_simp)
  have xf0 : w1.frozen? ⟨w.heap.size + 1, 0, none⟩ = false := (own 0).2.trans (by go_simp)
  have xc1 : w1.cell? ⟨w.heap.size + 1, 1, none⟩ = some (.string ⟨#[]⟩) := (own 1).1.trans (by go_simp)
  have xf1 : w1.frozen? ⟨w.heap.size + 1, 1, none⟩ = false := (own 1).2.trans (by go_simp)
  have xc2 : w1.cell? ⟨w.heap.size + 1, 2, none⟩ = some (.string ⟨#[]⟩) := (own 2).1.trans (by go_simp)
  have xf2 : w1.frozen? ⟨w.heap.size + 1, 2, none⟩ = false := (own 2).2.trans (by go_simp)
  have xc3 : w1.cell? ⟨w.heap.size + 1, 3, none⟩ = some (.string ⟨#[]⟩) := (own 3).1.trans (by go_simp)
  have xf3 : w1.frozen? ⟨w.heap.size + 1, 3, none⟩ = false := (own 3).2.trans (by go_simp)
  have xc4 : w1.cell? ⟨w.heap.size + 1, 4, none⟩ = some (.string ⟨#[]⟩) := (own 4).1.trans (by go_simp)
  have xf4 : w1.frozen? ⟨w.heap.size + 1, 4, none⟩ = false := (own 4).2.trans (by go_simp)
  have xc5 : w1.cell? ⟨w.heap.size + 1, 5, none⟩ = some (.string ⟨#[]⟩) := (own 5).1.trans (by go_simp)
  have xf5 : w1.frozen? ⟨w.heap.size + 1, 5, none⟩ = false := (own 5).2.trans (by go_simp)
  have xc6 : w1.cell? ⟨w.heap.size + 1, 6, none⟩ = some (.bool false) := (own 6).1.trans (by go_simp)
  have xf6 : w1.frozen? ⟨w.heap.size + 1, 6, none⟩ = false := (own 6).2.trans (by go_simp)
  have hz : w.heap.size + 1 < w1.heap.size := by have := hw1.size; simp at this; omega
  have hz2 : w.heap.size < w1.heap.size := by omega
  have hB : Grew w w1 := gw_trans (gw_alloc (gw_alloc gw_refl _) _) hw1
  clear own hw1 HO
  go_wp2
  refine bodyPost_ret (v := .agg #[.string ⟨#[]⟩, .string ⟨#[]⟩, .string ⟨#[]⟩, .string ⟨#[]⟩, .string ⟨#[]⟩, .string ⟨#[]⟩, .bool false]) ?_ rfl ?_
  · simp [results, Try.results7, go_sem, *]
  · refine ⟨rfl, ?_⟩
    repeat (first | (with_reducible refine gw_alloc ?_ _) | (with_reducible refine gw_set ?_ (show w.heap.size ≤ w.heap.size + 1 by omega) _) | (with_reducible refine gw_set ?_ (show w.heap.size ≤ w1.heap.size + 1 by omega) _))
    with_reducible exact hB

set_option maxRecDepth 20000 in
set_option maxHeartbeats 1000000 in
theorem ofF_1000 (p q n : Nat) (a b c d e f : ByteArray) (w : World) (hp : p < 256) (hq : q < 256) (ho : one p q = ⟨a, b, c, d, e, f⟩) (h0 : (bits BinOp.and IntKind.u8 (n : Int) 1 == 1) = true) (h1 : (bits BinOp.and IntKind.u8 (n : Int) 2 == 2) = false) (h2 : (bits BinOp.and IntKind.u8 (n : Int) 4 == 4) = false) (h3 : (bits BinOp.and IntKind.u8 (n : Int) 8 == 8) = false) :
    Calls Try.prog 7 #[.agg #[.int .u8 p, .int .u8 q, .int .u8 n]] w fun r w' => r = .returned (.agg #[.string a, .string ⟨#[]⟩, .string ⟨#[]⟩, .string ⟨#[]⟩, .string ⟨#[]⟩, .string ⟨#[]⟩, .bool false]) ∧ Grew w w' := by
  have HO := hid ho; clear ho
  go_enter Try.func7, Try.ntmps7
  go_wp2_with fail
  refine (one_any p q _ hp hq).mono ?_
  rintro r w1 ⟨rfl, hw1⟩
  rw [HO.out]
  simp only [val]
  have c2 : w1.cell? ⟨w.heap.size, 2, none⟩ = some (.int .u8 n) := (own_cells hw1.toBelow _ (by simp <;> omega) _).1.trans (by go_simp)
  have own := own_cells hw1.toBelow (w.heap.size + 1) (by simp)
  have xc0 : w1.cell? ⟨w.heap.size + 1, 0, none⟩ = some (.string ⟨#[]⟩) := (own 0).1.trans (by go_simp)
  have xf0 : w1.frozen? ⟨w.heap.size + 1, 0, none⟩ = false := (own 0).2.trans (by go_simp)
  have xc1 : w1.cell? ⟨w.heap.size + 1, 1, none⟩ = some (.string ⟨#[]⟩) := (own 1).1.trans (by go_simp)
  have xf1 : w1.frozen? ⟨w.heap.size + 1, 1, none⟩ = false := (own 1).2.trans (by go_simp)
  have xc2 : w1.cell? ⟨w.heap.size + 1, 2, none⟩ = some (.string ⟨#[]⟩) := (own 2).1.trans (by go_simp)
  have xf2 : w1.frozen? ⟨w.heap.size + 1, 2, none⟩ = false := (own 2).2.trans (by go_simp)
  have xc3 : w1.cell? ⟨w.heap.size + 1, 3, none⟩ = some (.string ⟨#[]⟩) := (own 3).1.trans (by go_simp)
  have xf3 : w1.frozen? ⟨w.heap.size + 1, 3, none⟩ = false := (own 3).2.trans (by go_simp)
  have xc4 : w1.cell? ⟨w.heap.size + 1, 4, none⟩ = some (.string ⟨#[]⟩) := (own 4).1.trans (by go_simp)
  have xf4 : w1.frozen? ⟨w.heap.size + 1, 4, none⟩ = false := (own 4).2.trans (by go_simp)
  have xc5 : w1.cell? ⟨w.heap.size + 1, 5, none⟩ = some (.string ⟨#[]⟩) := (own 5).1.trans (by go_simp)
  have xf5 : w1.frozen? ⟨w.heap.size + 1, 5, none⟩ = false := (own 5).2.trans (by go_simp)
  have xc6 : w1.cell? ⟨w.heap.size + 1, 6, none⟩ = some (.bool false) := (own 6).1.trans (by go_simp)
  have xf6 : w1.frozen? ⟨w.heap.size + 1, 6, none⟩ = false := (own 6).2.trans (by go_simp)
  have hz : w.heap.size + 1 < w1.heap.size := by have := hw1.size; simp at this; omega
  have hz2 : w.heap.size < w1.heap.size := by omega
  have hB : Grew w w1 := gw_trans (gw_alloc (gw_alloc gw_refl _) _) hw1
  clear own hw1 HO
  go_wp2
  refine bodyPost_ret (v := .agg #[.string a, .string ⟨#[]⟩, .string ⟨#[]⟩, .string ⟨#[]⟩, .string ⟨#[]⟩, .string ⟨#[]⟩, .bool false]) ?_ rfl ?_
  · simp [results, Try.results7, go_sem, *]
  · refine ⟨rfl, ?_⟩
    repeat (first | (with_reducible refine gw_alloc ?_ _) | (with_reducible refine gw_set ?_ (show w.heap.size ≤ w.heap.size + 1 by omega) _) | (with_reducible refine gw_set ?_ (show w.heap.size ≤ w1.heap.size + 1 by omega) _))
    with_reducible exact hB

set_option maxRecDepth 20000 in
set_option maxHeartbeats 1000000 in
theorem ofF_0100 (p q n : Nat) (a b c d e f : ByteArray) (w : World) (hp : p < 256) (hq : q < 256) (ho : one p q = ⟨a, b, c, d, e, f⟩) (h0 : (bits BinOp.and IntKind.u8 (n : Int) 1 == 1) = false) (h1 : (bits BinOp.and IntKind.u8 (n : Int) 2 == 2) = true) (h2 : (bits BinOp.and IntKind.u8 (n : Int) 4 == 4) = false) (h3 : (bits BinOp.and IntKind.u8 (n : Int) 8 == 8) = false) :
    Calls Try.prog 7 #[.agg #[.int .u8 p, .int .u8 q, .int .u8 n]] w fun r w' => r = .returned (.agg #[.string ⟨#[]⟩, .string b, .string ⟨#[]⟩, .string ⟨#[]⟩, .string ⟨#[]⟩, .string ⟨#[]⟩, .bool false]) ∧ Grew w w' := by
  have HO := hid ho; clear ho
  go_enter Try.func7, Try.ntmps7
  go_wp2_with fail
  refine (one_any p q _ hp hq).mono ?_
  rintro r w1 ⟨rfl, hw1⟩
  rw [HO.out]
  simp only [val]
  have c2 : w1.cell? ⟨w.heap.size, 2, none⟩ = some (.int .u8 n) := (own_cells hw1.toBelow _ (by simp <;> omega) _).1.trans (by go_simp)
  have own := own_cells hw1.toBelow (w.heap.size + 1) (by simp)
  have xc0 : w1.cell? ⟨w.heap.size + 1, 0, none⟩ = some (.string ⟨#[]⟩) := (own 0).1.trans (by go_simp)
  have xf0 : w1.frozen? ⟨w.heap.size + 1, 0, none⟩ = false := (own 0).2.trans (by go_simp)
  have xc1 : w1.cell? ⟨w.heap.size + 1, 1, none⟩ = some (.string ⟨#[]⟩) := (own 1).1.trans (by go_simp)
  have xf1 : w1.frozen? ⟨w.heap.size + 1, 1, none⟩ = false := (own 1).2.trans (by go_simp)
  have xc2 : w1.cell? ⟨w.heap.size + 1, 2, none⟩ = some (.string ⟨#[]⟩) := (own 2).1.trans (by go_simp)
  have xf2 : w1.frozen? ⟨w.heap.size + 1, 2, none⟩ = false := (own 2).2.trans (by go_simp)
  have xc3 : w1.cell? ⟨w.heap.size + 1, 3, none⟩ = some (.string ⟨#[]⟩) := (own 3).1.trans (by go_simp)
  have xf3 : w1.frozen? ⟨w.heap.size + 1, 3, none⟩ = false := (own 3).2.trans (by go_simp)
  have xc4 : w1.cell? ⟨w.heap.size + 1, 4, none⟩ = some (.string ⟨#[]⟩) := (own 4).1.trans (by go_simp)
  have xf4 : w1.frozen? ⟨w.heap.size + 1, 4, none⟩ = false := (own 4).2.trans (by go_simp)
  have xc5 : w1.cell? ⟨w.heap.size + 1, 5, none⟩ = some (.string ⟨#[]⟩) := (own 5).1.trans (by go_simp)
  have xf5 : w1.frozen? ⟨w.heap.size + 1, 5, none⟩ = false := (own 5).2.trans (by go_simp)
  have xc6 : w1.cell? ⟨w.heap.size + 1, 6, none⟩ = some (.bool false) := (own 6).1.trans (by go_simp)
  have xf6 : w1.frozen? ⟨w.heap.size + 1, 6, none⟩ = false := (own 6).2.trans (by go_simp)
  have hz : w.heap.size + 1 < w1.heap.size := by have := hw1.size; simp at this; omega
  have hz2 : w.heap.size < w1.heap.size := by omega
  have hB : Grew w w1 := gw_trans (gw_alloc (gw_alloc gw_refl _) _) hw1
  clear own hw1 HO
  go_wp2
  refine bodyPost_ret (v := .agg #[.string ⟨#[]⟩, .string b, .string ⟨#[]⟩, .string ⟨#[]⟩, .string ⟨#[]⟩, .string ⟨#[]⟩, .bool false]) ?_ rfl ?_
  · simp [results, Try.results7, go_sem, *]
  · refine ⟨rfl, ?_⟩
    repeat (first | (with_reducible refine gw_alloc ?_ _) | (with_reducible refine gw_set ?_ (show w.heap.size ≤ w.heap.size + 1 by omega) _) | (with_reducible refine gw_set ?_ (show w.heap.size ≤ w1.heap.size + 1 by omega) _))
    with_reducible exact hB

set_option maxRecDepth 20000 in
set_option maxHeartbeats 1000000 in
theorem ofF_1100 (p q n : Nat) (a b c d e f : ByteArray) (w : World) (hp : p < 256) (hq : q < 256) (ho : one p q = ⟨a, b, c, d, e, f⟩) (h0 : (bits BinOp.and IntKind.u8 (n : Int) 1 == 1) = true) (h1 : (bits BinOp.and IntKind.u8 (n : Int) 2 == 2) = true) (h2 : (bits BinOp.and IntKind.u8 (n : Int) 4 == 4) = false) (h3 : (bits BinOp.and IntKind.u8 (n : Int) 8 == 8) = false) :
    Calls Try.prog 7 #[.agg #[.int .u8 p, .int .u8 q, .int .u8 n]] w fun r w' => r = .returned (.agg #[.string a, .string b, .string ⟨#[]⟩, .string ⟨#[]⟩, .string ⟨#[]⟩, .string ⟨#[]⟩, .bool false]) ∧ Grew w w' := by
  have HO := hid ho; clear ho
  go_enter Try.func7, Try.ntmps7
  go_wp2_with fail
  refine (one_any p q _ hp hq).mono ?_
  rintro r w1 ⟨rfl, hw1⟩
  rw [HO.out]
  simp only [val]
  have c2 : w1.cell? ⟨w.heap.size, 2, none⟩ = some (.int .u8 n) := (own_cells hw1.toBelow _ (by simp <;> omega) _).1.trans (by go_simp)
  have own := own_cells hw1.toBelow (w.heap.size + 1) (by simp)
  have xc0 : w1.cell? ⟨w.heap.size + 1, 0, none⟩ = some (.string ⟨#[]⟩) := (own 0).1.trans (by go_simp)
  have xf0 : w1.frozen? ⟨w.heap.size + 1, 0, none⟩ = false := (own 0).2.trans (by go_simp)
  have xc1 : w1.cell? ⟨w.heap.size + 1, 1, none⟩ = some (.string ⟨#[]⟩) := (own 1).1.trans (by go_simp)
  have xf1 : w1.frozen? ⟨w.heap.size + 1, 1, none⟩ = false := (own 1).2.trans (by go_simp)
  have xc2 : w1.cell? ⟨w.heap.size + 1, 2, none⟩ = some (.string ⟨#[]⟩) := (own 2).1.trans (by go_simp)
  have xf2 : w1.frozen? ⟨w.heap.size + 1, 2, none⟩ = false := (own 2).2.trans (by go_simp)
  have xc3 : w1.cell? ⟨w.heap.size + 1, 3, none⟩ = some (.string ⟨#[]⟩) := (own 3).1.trans (by go_simp)
  have xf3 : w1.frozen? ⟨w.heap.size + 1, 3, none⟩ = false := (own 3).2.trans (by go_simp)
  have xc4 : w1.cell? ⟨w.heap.size + 1, 4, none⟩ = some (.string ⟨#[]⟩) := (own 4).1.trans (by go_simp)
  have xf4 : w1.frozen? ⟨w.heap.size + 1, 4, none⟩ = false := (own 4).2.trans (by go_simp)
  have xc5 : w1.cell? ⟨w.heap.size + 1, 5, none⟩ = some (.string ⟨#[]⟩) := (own 5).1.trans (by go_simp)
  have xf5 : w1.frozen? ⟨w.heap.size + 1, 5, none⟩ = false := (own 5).2.trans (by go_simp)
  have xc6 : w1.cell? ⟨w.heap.size + 1, 6, none⟩ = some (.bool false) := (own 6).1.trans (by go_simp)
  have xf6 : w1.frozen? ⟨w.heap.size + 1, 6, none⟩ = false := (own 6).2.trans (by go_simp)
  have hz : w.heap.size + 1 < w1.heap.size := by have := hw1.size; simp at this; omega
  have hz2 : w.heap.size < w1.heap.size := by omega
  have hB : Grew w w1 := gw_trans (gw_alloc (gw_alloc gw_refl _) _) hw1
  clear own hw1 HO
  go_wp2
  refine bodyPost_ret (v := .agg #[.string a, .string b, .string ⟨#[]⟩, .string ⟨#[]⟩, .string ⟨#[]⟩, .string ⟨#[]⟩, .bool false]) ?_ rfl ?_
  · simp [results, Try.results7, go_sem, *]
  · refine ⟨rfl, ?_⟩
    repeat (first | (with_reducible refine gw_alloc ?_ _) | (with_reducible refine gw_set ?_ (show w.heap.size ≤ w.heap.size + 1 by omega) _) | (with_reducible refine gw_set ?_ (show w.heap.size ≤ w1.heap.size + 1 by omega) _))
    with_reducible exact hB

set_option maxRecDepth 20000 in
set_option maxHeartbeats 1000000 in
theorem ofF_0010 (p q n : Nat) (a b c d e f : ByteArray) (w : World) (hp : p < 256) (hq : q < 256) (ho : one p q = ⟨a, b, c, d, e, f⟩) (h0 : (bits BinOp.and IntKind.u8 (n : Int) 1 == 1) = false) (h1 : (bits BinOp.and IntKind.u8 (n : Int) 2 == 2) = false) (h2 : (bits BinOp.and IntKind.u8 (n : Int) 4 == 4) = true) (h3 : (bits BinOp.and IntKind.u8 (n : Int) 8 == 8) = false) :
    Calls Try.prog 7 #[.agg #[.int .u8 p, .int .u8 q, .int .u8 n]] w fun r w' => r = .returned (.agg #[.string ⟨#[]⟩, .string ⟨#[]⟩, .string c, .string ⟨#[]⟩, .string ⟨#[]⟩, .string ⟨#[]⟩, .bool false]) ∧ Grew w w' := by
  have HO := hid ho; clear ho
  go_enter Try.func7, Try.ntmps7
  go_wp2_with fail
  refine (one_any p q _ hp hq).mono ?_
  rintro r w1 ⟨rfl, hw1⟩
  rw [HO.out]
  simp only [val]
  have c2 : w1.cell? ⟨w.heap.size, 2, none⟩ = some (.int .u8 n) := (own_cells hw1.toBelow _ (by simp <;> omega) _).1.trans (by go_simp)
  have own := own_cells hw1.toBelow (w.heap.size + 1) (by simp)
  have xc0 : w1.cell? ⟨w.heap.size + 1, 0, none⟩ = some (.string ⟨#[]⟩) := (own 0).1.trans (by go_simp)
  have xf0 : w1.frozen? ⟨w.heap.size + 1, 0, none⟩ = false := (own 0).2.trans (by go_simp)
  have xc1 : w1.cell? ⟨w.heap.size + 1, 1, none⟩ = some (.string ⟨#[]⟩) := (own 1).1.trans (by go_simp)
  have xf1 : w1.frozen? ⟨w.heap.size + 1, 1, none⟩ = false := (own 1).2.trans (by go_simp)
  have xc2 : w1.cell? ⟨w.heap.size + 1, 2, none⟩ = some (.string ⟨#[]⟩) := (own 2).1.trans (by go_simp)
  have xf2 : w1.frozen? ⟨w.heap.size + 1, 2, none⟩ = false := (own 2).2.trans (by go_simp)
  have xc3 : w1.cell? ⟨w.heap.size + 1, 3, none⟩ = some (.string ⟨#[]⟩) := (own 3).1.trans (by go_simp)
  have xf3 : w1.frozen? ⟨w.heap.size + 1, 3, none⟩ = false := (own 3).2.trans (by go_simp)
  have xc4 : w1.cell? ⟨w.heap.size + 1, 4, none⟩ = some (.string ⟨#[]⟩) := (own 4).1.trans (by go_simp)
  have xf4 : w1.frozen? ⟨w.heap.size + 1, 4, none⟩ = false := (own 4).2.trans (by go_simp)
  have xc5 : w1.cell? ⟨w.heap.size + 1, 5, none⟩ = some (.string ⟨#[]⟩) := (own 5).1.trans (by go_simp)
  have xf5 : w1.frozen? ⟨w.heap.size + 1, 5, none⟩ = false := (own 5).2.trans (by go_simp)
  have xc6 : w1.cell? ⟨w.heap.size + 1, 6, none⟩ = some (.bool false) := (own 6).1.trans (by go_simp)
  have xf6 : w1.frozen? ⟨w.heap.size + 1, 6, none⟩ = false := (own 6).2.trans (by go_simp)
  have hz : w.heap.size + 1 < w1.heap.size := by have := hw1.size; simp at this; omega
  have hz2 : w.heap.size < w1.heap.size := by omega
  have hB : Grew w w1 := gw_trans (gw_alloc (gw_alloc gw_refl _) _) hw1
  clear own hw1 HO
  go_wp2
  refine bodyPost_ret (v := .agg #[.string ⟨#[]⟩, .string ⟨#[]⟩, .string c, .string ⟨#[]⟩, .string ⟨#[]⟩, .string ⟨#[]⟩, .bool false]) ?_ rfl ?_
  · simp [results, Try.results7, go_sem, *]
  · refine ⟨rfl, ?_⟩
    repeat (first | (with_reducible refine gw_alloc ?_ _) | (with_reducible refine gw_set ?_ (show w.heap.size ≤ w.heap.size + 1 by omega) _) | (with_reducible refine gw_set ?_ (show w.heap.size ≤ w1.heap.size + 1 by omega) _))
    with_reducible exact hB

set_option maxRecDepth 20000 in
set_option maxHeartbeats 1000000 in
theorem ofF_1010 (p q n : Nat) (a b c d e f : ByteArray) (w : World) (hp : p < 256) (hq : q < 256) (ho : one p q = ⟨a, b, c, d, e, f⟩) (h0 : (bits BinOp.and IntKind.u8 (n : Int) 1 == 1) = true) (h1 : (bits BinOp.and IntKind.u8 (n : Int) 2 == 2) = false) (h2 : (bits BinOp.and IntKind.u8 (n : Int) 4 == 4) = true) (h3 : (bits BinOp.and IntKind.u8 (n : Int) 8 == 8) = false) :
    Calls Try.prog 7 #[.agg #[.int .u8 p, .int .u8 q, .int .u8 n]] w fun r w' => r = .returned (.agg #[.string a, .string ⟨#[]⟩, .string c, .string ⟨#[]⟩, .string ⟨#[]⟩, .string ⟨#[]⟩, .bool false]) ∧ Grew w w' := by
  have HO := hid ho; clear ho
  go_enter Try.func7, Try.ntmps7
  go_wp2_with fail
  refine (one_any p q _ hp hq).mono ?_
  rintro r w1 ⟨rfl, hw1⟩
  rw [HO.out]
  simp only [val]
  have c2 : w1.cell? ⟨w.heap.size, 2, none⟩ = some (.int .u8 n) := (own_cells hw1.toBelow _ (by simp <;> omega) _).1.trans (by go_simp)
  have own := own_cells hw1.toBelow (w.heap.size + 1) (by simp)
  have xc0 : w1.cell? ⟨w.heap.size + 1, 0, none⟩ = some (.string ⟨#[]⟩) := (own 0).1.trans (by go_simp)
  have xf0 : w1.frozen? ⟨w.heap.size + 1, 0, none⟩ = false := (own 0).2.trans (by go_simp)
  have xc1 : w1.cell? ⟨w.heap.size + 1, 1, none⟩ = some (.string ⟨#[]⟩) := (own 1).1.trans (by go_simp)
  have xf1 : w1.frozen? ⟨w.heap.size + 1, 1, none⟩ = false := (own 1).2.trans (by go_simp)
  have xc2 : w1.cell? ⟨w.heap.size + 1, 2, none⟩ = some (.string ⟨#[]⟩) := (own 2).1.trans (by go_simp)
  have xf2 : w1.frozen? ⟨w.heap.size + 1, 2, none⟩ = false := (own 2).2.trans (by go_simp)
  have xc3 : w1.cell? ⟨w.heap.size + 1, 3, none⟩ = some (.string ⟨#[]⟩) := (own 3).1.trans (by go_simp)
  have xf3 : w1.frozen? ⟨w.heap.size + 1, 3, none⟩ = false := (own 3).2.trans (by go_simp)
  have xc4 : w1.cell? ⟨w.heap.size + 1, 4, none⟩ = some (.string ⟨#[]⟩) := (own 4).1.trans (by go_simp)
  have xf4 : w1.frozen? ⟨w.heap.size + 1, 4, none⟩ = false := (own 4).2.trans (by go_simp)
  have xc5 : w1.cell? ⟨w.heap.size + 1, 5, none⟩ = some (.string ⟨#[]⟩) := (own 5).1.trans (by go_simp)
  have xf5 : w1.frozen? ⟨w.heap.size + 1, 5, none⟩ = false := (own 5).2.trans (by go_simp)
  have xc6 : w1.cell? ⟨w.heap.size + 1, 6, none⟩ = some (.bool false) := (own 6).1.trans (by go_simp)
  have xf6 : w1.frozen? ⟨w.heap.size + 1, 6, none⟩ = false := (own 6).2.trans (by go_simp)
  have hz : w.heap.size + 1 < w1.heap.size := by have := hw1.size; simp at this; omega
  have hz2 : w.heap.size < w1.heap.size := by omega
  have hB : Grew w w1 := gw_trans (gw_alloc (gw_alloc gw_refl _) _) hw1
  clear own hw1 HO
  go_wp2
  refine bodyPost_ret (v := .agg #[.string a, .string ⟨#[]⟩, .string c, .string ⟨#[]⟩, .string ⟨#[]⟩, .string ⟨#[]⟩, .bool false]) ?_ rfl ?_
  · simp [results, Try.results7, go_sem, *]
  · refine ⟨rfl, ?_⟩
    repeat (first | (with_reducible refine gw_alloc ?_ _) | (with_reducible refine gw_set ?_ (show w.heap.size ≤ w.heap.size + 1 by omega) _) | (with_reducible refine gw_set ?_ (show w.heap.size ≤ w1.heap.size + 1 by omega) _))
    with_reducible exact hB

set_option maxRecDepth 20000 in
set_option maxHeartbeats 1000000 in
theorem ofF_0110 (p q n : Nat) (a b c d e f : ByteArray) (w : World) (hp : p < 256) (hq : q < 256) (ho : one p q = ⟨a, b, c, d, e, f⟩) (h0 : (bits BinOp.and IntKind.u8 (n : Int) 1 == 1) = false) (h1 : (bits BinOp.and IntKind.u8 (n : Int) 2 == 2) = true) (h2 : (bits BinOp.and IntKind.u8 (n : Int) 4 == 4) = true) (h3 : (bits BinOp.and IntKind.u8 (n : Int) 8 == 8) = false) :
    Calls Try.prog 7 #[.agg #[.int .u8 p, .int .u8 q, .int .u8 n]] w fun r w' => r = .returned (.agg #[.string ⟨#[]⟩, .string b, .string c, .string ⟨#[]⟩, .string ⟨#[]⟩, .string ⟨#[]⟩, .bool false]) ∧ Grew w w' := by
  have HO := hid ho; clear ho
  go_enter Try.func7, Try.ntmps7
  go_wp2_with fail
  refine (one_any p q _ hp hq).mono ?_
  rintro r w1 ⟨rfl, hw1⟩
  rw [HO.out]
  simp only [val]
  have c2 : w1.cell? ⟨w.heap.size, 2, none⟩ = some (.int .u8 n) := (own_cells hw1.toBelow _ (by simp <;> omega) _).1.trans (by go_simp)
  have own := own_cells hw1.toBelow (w.heap.size + 1) (by simp)
  have xc0 : w1.cell? ⟨w.heap.size + 1, 0, none⟩ = some (.string ⟨#[]⟩) := (own 0).1.trans (by go_simp)
  have xf0 : w1.frozen? ⟨w.heap.size + 1, 0, none⟩ = false := (own 0).2.trans (by go_simp)
  have xc1 : w1.cell? ⟨w.heap.size + 1, 1, none⟩ = some (.string ⟨#[]⟩) := (own 1).1.trans (by go_simp)
  have xf1 : w1.frozen? ⟨w.heap.size + 1, 1, none⟩ = false := (own 1).2.trans (by go_simp)
  have xc2 : w1.cell? ⟨w.heap.size + 1, 2, none⟩ = some (.string ⟨#[]⟩) := (own 2).1.trans (by go_simp)
  have xf2 : w1.frozen? ⟨w.heap.size + 1, 2, none⟩ = false := (own 2).2.trans (by go_simp)
  have xc3 : w1.cell? ⟨w.heap.size + 1, 3, none⟩ = some (.string ⟨#[]⟩) := (own 3).1.trans (by go_simp)
  have xf3 : w1.frozen? ⟨w.heap.size + 1, 3, none⟩ = false := (own 3).2.trans (by go_simp)
  have xc4 : w1.cell? ⟨w.heap.size + 1, 4, none⟩ = some (.string ⟨#[]⟩) := (own 4).1.trans (by go_simp)
  have xf4 : w1.frozen? ⟨w.heap.size + 1, 4, none⟩ = false := (own 4).2.trans (by go_simp)
  have xc5 : w1.cell? ⟨w.heap.size + 1, 5, none⟩ = some (.string ⟨#[]⟩) := (own 5).1.trans (by go_simp)
  have xf5 : w1.frozen? ⟨w.heap.size + 1, 5, none⟩ = false := (own 5).2.trans (by go_simp)
  have xc6 : w1.cell? ⟨w.heap.size + 1, 6, none⟩ = some (.bool false) := (own 6).1.trans (by go_simp)
  have xf6 : w1.frozen? ⟨w.heap.size + 1, 6, none⟩ = false := (own 6).2.trans (by go_simp)
  have hz : w.heap.size + 1 < w1.heap.size := by have := hw1.size; simp at this; omega
  have hz2 : w.heap.size < w1.heap.size := by omega
  have hB : Grew w w1 := gw_trans (gw_alloc (gw_alloc gw_refl _) _) hw1
  clear own hw1 HO
  go_wp2
  refine bodyPost_ret (v := .agg #[.string ⟨#[]⟩, .string b, .string c, .string ⟨#[]⟩, .string ⟨#[]⟩, .string ⟨#[]⟩, .bool false]) ?_ rfl ?_
  · simp [results, Try.results7, go_sem, *]
  · refine ⟨rfl, ?_⟩
    repeat (first | (with_reducible refine gw_alloc ?_ _) | (with_reducible refine gw_set ?_ (show w.heap.size ≤ w.heap.size + 1 by omega) _) | (with_reducible refine gw_set ?_ (show w.heap.size ≤ w1.heap.size + 1 by omega) _))
    with_reducible exact hB

set_option maxRecDepth 20000 in
set_option maxHeartbeats 1000000 in
theorem ofF_1110 (p q n : Nat) (a b c d e f : ByteArray) (w : World) (hp : p < 256) (hq : q < 256) (ho : one p q = ⟨a, b, c, d, e, f⟩) (h0 : (bits BinOp.and IntKind.u8 (n : Int) 1 == 1) = true) (h1 : (bits BinOp.and IntKind.u8 (n : Int) 2 == 2) = true) (h2 : (bits BinOp.and IntKind.u8 (n : Int) 4 == 4) = true) (h3 : (bits BinOp.and IntKind.u8 (n : Int) 8 == 8) = false) :
    Calls Try.prog 7 #[.agg #[.int .u8 p, .int .u8 q, .int .u8 n]] w fun r w' => r = .returned (.agg #[.string a, .string b, .string c, .string ⟨#[]⟩, .string ⟨#[]⟩, .string ⟨#[]⟩, .bool false]) ∧ Grew w w' := by
  have HO := hid ho; clear ho
  go_enter Try.func7, Try.ntmps7
  go_wp2_with fail
  refine (one_any p q _ hp hq).mono ?_
  rintro r w1 ⟨rfl, hw1⟩
  rw [HO.out]
  simp only [val]
  have c2 : w1.cell? ⟨w.heap.size, 2, none⟩ = some (.int .u8 n) := (own_cells hw1.toBelow _ (by simp <;> omega) _).1.trans (by go_simp)
  have own := own_cells hw1.toBelow (w.heap.size + 1) (by simp)
  have xc0 : w1.cell? ⟨w.heap.size + 1, 0, none⟩ = some (.string ⟨#[]⟩) := (own 0).1.trans (by go_simp)
  have xf0 : w1.frozen? ⟨w.heap.size + 1, 0, none⟩ = false := (own 0).2.trans (by go_simp)
  have xc1 : w1.cell? ⟨w.heap.size + 1, 1, none⟩ = some (.string ⟨#[]⟩) := (own 1).1.trans (by go_simp)
  have xf1 : w1.frozen? ⟨w.heap.size + 1, 1, none⟩ = false := (own 1).2.trans (by go_simp)
  have xc2 : w1.cell? ⟨w.heap.size + 1, 2, none⟩ = some (.string ⟨#[]⟩) := (own 2).1.trans (by go_simp)
  have xf2 : w1.frozen? ⟨w.heap.size + 1, 2, none⟩ = false := (own 2).2.trans (by go_simp)
  have xc3 : w1.cell? ⟨w.heap.size + 1, 3, none⟩ = some (.string ⟨#[]⟩) := (own 3).1.trans (by go_simp)
  have xf3 : w1.frozen? ⟨w.heap.size + 1, 3, none⟩ = false := (own 3).2.trans (by go_simp)
  have xc4 : w1.cell? ⟨w.heap.size + 1, 4, none⟩ = some (.string ⟨#[]⟩) := (own 4).1.trans (by go_simp)
  have xf4 : w1.frozen? ⟨w.heap.size + 1, 4, none⟩ = false := (own 4).2.trans (by go_simp)
  have xc5 : w1.cell? ⟨w.heap.size + 1, 5, none⟩ = some (.string ⟨#[]⟩) := (own 5).1.trans (by go_simp)
  have xf5 : w1.frozen? ⟨w.heap.size + 1, 5, none⟩ = false := (own 5).2.trans (by go_simp)
  have xc6 : w1.cell? ⟨w.heap.size + 1, 6, none⟩ = some (.bool false) := (own 6).1.trans (by go_simp)
  have xf6 : w1.frozen? ⟨w.heap.size + 1, 6, none⟩ = false := (own 6).2.trans (by go_simp)
  have hz : w.heap.size + 1 < w1.heap.size := by have := hw1.size; simp at this; omega
  have hz2 : w.heap.size < w1.heap.size := by omega
  have hB : Grew w w1 := gw_trans (gw_alloc (gw_alloc gw_refl _) _) hw1
  clear own hw1 HO
  go_wp2
  refine bodyPost_ret (v := .agg #[.string a, .string b, .string c, .string ⟨#[]⟩, .string ⟨#[]⟩, .string ⟨#[]⟩, .bool false]) ?_ rfl ?_
  · simp [results, Try.results7, go_sem, *]
  · refine ⟨rfl, ?_⟩
    repeat (first | (with_reducible refine gw_alloc ?_ _) | (with_reducible refine gw_set ?_ (show w.heap.size ≤ w.heap.size + 1 by omega) _) | (with_reducible refine gw_set ?_ (show w.heap.size ≤ w1.heap.size + 1 by omega) _))
    with_reducible exact hB

set_option maxRecDepth 20000 in
set_option maxHeartbeats 1000000 in
theorem ofF_0001 (p q n : Nat) (a b c d e f : ByteArray) (w : World) (hp : p < 256) (hq : q < 256) (ho : one p q = ⟨a, b, c, d, e, f⟩) (h0 : (bits BinOp.and IntKind.u8 (n : Int) 1 == 1) = false) (h1 : (bits BinOp.and IntKind.u8 (n : Int) 2 == 2) = false) (h2 : (bits BinOp.and IntKind.u8 (n : Int) 4 == 4) = false) (h3 : (bits BinOp.and IntKind.u8 (n : Int) 8 == 8) = true) :
    Calls Try.prog 7 #[.agg #[.int .u8 p, .int .u8 q, .int .u8 n]] w fun r w' => r = .returned (.agg #[.string ⟨#[]⟩, .string ⟨#[]⟩, .string ⟨#[]⟩, .string d, .string e, .string f, .bool true]) ∧ Grew w w' := by
  have HO := hid ho; clear ho
  go_enter Try.func7, Try.ntmps7
  go_wp2_with fail
  refine (one_any p q _ hp hq).mono ?_
  rintro r w1 ⟨rfl, hw1⟩
  rw [HO.out]
  simp only [val]
  have c2 : w1.cell? ⟨w.heap.size, 2, none⟩ = some (.int .u8 n) := (own_cells hw1.toBelow _ (by simp <;> omega) _).1.trans (by go_simp)
  have own := own_cells hw1.toBelow (w.heap.size + 1) (by simp)
  have xc0 : w1.cell? ⟨w.heap.size + 1, 0, none⟩ = some (.string ⟨#[]⟩) := (own 0).1.trans (by go_simp)
  have xf0 : w1.frozen? ⟨w.heap.size + 1, 0, none⟩ = false := (own 0).2.trans (by go_simp)
  have xc1 : w1.cell? ⟨w.heap.size + 1, 1, none⟩ = some (.string ⟨#[]⟩) := (own 1).1.trans (by go_simp)
  have xf1 : w1.frozen? ⟨w.heap.size + 1, 1, none⟩ = false := (own 1).2.trans (by go_simp)
  have xc2 : w1.cell? ⟨w.heap.size + 1, 2, none⟩ = some (.string ⟨#[]⟩) := (own 2).1.trans (by go_simp)
  have xf2 : w1.frozen? ⟨w.heap.size + 1, 2, none⟩ = false := (own 2).2.trans (by go_simp)
  have xc3 : w1.cell? ⟨w.heap.size + 1, 3, none⟩ = some (.string ⟨#[]⟩) := (own 3).1.trans (by go_simp)
  have xf3 : w1.frozen? ⟨w.heap.size + 1, 3, none⟩ = false := (own 3).2.trans (by go_simp)
  have xc4 : w1.cell? ⟨w.heap.size + 1, 4, none⟩ = some (.string ⟨#[]⟩) := (own 4).1.trans (by go_simp)
  have xf4 : w1.frozen? ⟨w.heap.size + 1, 4, none⟩ = false := (own 4).2.trans (by go_simp)
  have xc5 : w1.cell? ⟨w.heap.size + 1, 5, none⟩ = some (.string ⟨#[]⟩) := (own 5).1.trans (by go_simp)
  have xf5 : w1.frozen? ⟨w.heap.size + 1, 5, none⟩ = false := (own 5).2.trans (by go_simp)
  have xc6 : w1.cell? ⟨w.heap.size + 1, 6, none⟩ = some (.bool false) := (own 6).1.trans (by go_simp)
  have xf6 : w1.frozen? ⟨w.heap.size + 1, 6, none⟩ = false := (own 6).2.trans (by go_simp)
  have hz : w.heap.size + 1 < w1.heap.size := by have := hw1.size; simp at this; omega
  have hz2 : w.heap.size < w1.heap.size := by omega
  have hB : Grew w w1 := gw_trans (gw_alloc (gw_alloc gw_refl _) _) hw1
  clear own hw1 HO
  go_wp2
  refine bodyPost_ret (v := .agg #[.string ⟨#[]⟩, .string ⟨#[]⟩, .string ⟨#[]⟩, .string d, .string e, .string f, .bool true]) ?_ rfl ?_
  · simp [results, Try.results7, go_sem, *]
  · refine ⟨rfl, ?_⟩
    repeat (first | (with_reducible refine gw_alloc ?_ _) | (with_reducible refine gw_set ?_ (show w.heap.size ≤ w.heap.size + 1 by omega) _) | (with_reducible refine gw_set ?_ (show w.heap.size ≤ w1.heap.size + 1 by omega) _))
    with_reducible exact hB

set_option maxRecDepth 20000 in
set_option maxHeartbeats 1000000 in
theorem ofF_1001 (p q n : Nat) (a b c d e f : ByteArray) (w : World) (hp : p < 256) (hq : q < 256) (ho : one p q = ⟨a, b, c, d, e, f⟩) (h0 : (bits BinOp.and IntKind.u8 (n : Int) 1 == 1) = true) (h1 : (bits BinOp.and IntKind.u8 (n : Int) 2 == 2) = false) (h2 : (bits BinOp.and IntKind.u8 (n : Int) 4 == 4) = false) (h3 : (bits BinOp.and IntKind.u8 (n : Int) 8 == 8) = true) :
    Calls Try.prog 7 #[.agg #[.int .u8 p, .int .u8 q, .int .u8 n]] w fun r w' => r = .returned (.agg #[.string a, .string ⟨#[]⟩, .string ⟨#[]⟩, .string d, .string e, .string f, .bool true]) ∧ Grew w w' := by
  have HO := hid ho; clear ho
  go_enter Try.func7, Try.ntmps7
  go_wp2_with fail
  refine (one_any p q _ hp hq).mono ?_
  rintro r w1 ⟨rfl, hw1⟩
  rw [HO.out]
  simp only [val]
  have c2 : w1.cell? ⟨w.heap.size, 2, none⟩ = some (.int .u8 n) := (own_cells hw1.toBelow _ (by simp <;> omega) _).1.trans (by go_simp)
  have own := own_cells hw1.toBelow (w.heap.size + 1) (by simp)
  have xc0 : w1.cell? ⟨w.heap.size + 1, 0, none⟩ = some (.string ⟨#[]⟩) := (own 0).1.trans (by go_simp)
  have xf0 : w1.frozen? ⟨w.heap.size + 1, 0, none⟩ = false := (own 0).2.trans (by go_simp)
  have xc1 : w1.cell? ⟨w.heap.size + 1, 1, none⟩ = some (.string ⟨#[]⟩) := (own 1).1.trans (by go_simp)
  have xf1 : w1.frozen? ⟨w.heap.size + 1, 1, none⟩ = false := (own 1).2.trans (by go_simp)
  have xc2 : w1.cell? ⟨w.heap.size + 1, 2, none⟩ = some (.string ⟨#[]⟩) := (own 2).1.trans (by go_simp)
  have xf2 : w1.frozen? ⟨w.heap.size + 1, 2, none⟩ = false := (own 2).2.trans (by go_simp)
  have xc3 : w1.cell? ⟨w.heap.size + 1, 3, none⟩ = some (.string ⟨#[]⟩) := (own 3).1.trans (by go_simp)
  have xf3 : w1.frozen? ⟨w.heap.size + 1, 3, none⟩ = false := (own 3).2.trans (by go_simp)
  have xc4 : w1.cell? ⟨w.heap.size + 1, 4, none⟩ = some (.string ⟨#[]⟩) := (own 4).1.trans (by go_simp)
  have xf4 : w1.frozen? ⟨w.heap.size + 1, 4, none⟩ = false := (own 4).2.trans (by go_simp)
  have xc5 : w1.cell? ⟨w.heap.size + 1, 5, none⟩ = some (.string ⟨#[]⟩) := (own 5).1.trans (by go_simp)
  have xf5 : w1.frozen? ⟨w.heap.size + 1, 5, none⟩ = false := (own 5).2.trans (by go_simp)
  have xc6 : w1.cell? ⟨w.heap.size + 1, 6, none⟩ = some (.bool false) := (own 6).1.trans (by go_simp)
  have xf6 : w1.frozen? ⟨w.heap.size + 1, 6, none⟩ = false := (own 6).2.trans (by go_simp)
  have hz : w.heap.size + 1 < w1.heap.size := by have := hw1.size; simp at this; omega
  have hz2 : w.heap.size < w1.heap.size := by omega
  have hB : Grew w w1 := gw_trans (gw_alloc (gw_alloc gw_refl _) _) hw1
  clear own hw1 HO
  go_wp2
  refine bodyPost_ret (v := .agg #[.string a, .string ⟨#[]⟩, .string ⟨#[]⟩, .string d, .string e, .string f, .bool true]) ?_ rfl ?_
  · simp [results, Try.results7, go_sem, *]
  · refine ⟨rfl, ?_⟩
    repeat (first | (with_reducible refine gw_alloc ?_ _) | (with_reducible refine gw_set ?_ (show w.heap.size ≤ w.heap.size + 1 by omega) _) | (with_reducible refine gw_set ?_ (show w.heap.size ≤ w1.heap.size + 1 by omega) _))
    with_reducible exact hB

set_option maxRecDepth 20000 in
set_option maxHeartbeats 1000000 in
theorem ofF_0101 (p q n : Nat) (a b c d e f : ByteArray) (w : World) (hp : p < 256) (hq : q < 256) (ho : one p q = ⟨a, b, c, d, e, f⟩) (h0 : (bits BinOp.and IntKind.u8 (n : Int) 1 == 1) = false) (h1 : (bits BinOp.and IntKind.u8 (n : Int) 2 == 2) = true) (h2 : (bits BinOp.and IntKind.u8 (n : Int) 4 == 4) = false) (h3 : (bits BinOp.and IntKind.u8 (n : Int) 8 == 8) = true) :
    Calls Try.prog 7 #[.agg #[.int .u8 p, .int .u8 q, .int .u8 n]] w fun r w' => r = .returned (.agg #[.string ⟨#[]⟩, .string b, .string ⟨#[]⟩, .string d, .string e, .string f, .bool true]) ∧ Grew w w' := by
  have HO := hid ho; clear ho
  go_enter Try.func7, Try.ntmps7
  go_wp2_with fail
  refine (one_any p q _ hp hq).mono ?_
  rintro r w1 ⟨rfl, hw1⟩
  rw [HO.out]
  simp only [val]
  have c2 : w1.cell? ⟨w.heap.size, 2, none⟩ = some (.int .u8 n) := (own_cells hw1.toBelow _ (by simp <;> omega) _).1.trans (by go_simp)
  have own := own_cells hw1.toBelow (w.heap.size + 1) (by simp)
  have xc0 : w1.cell? ⟨w.heap.size + 1, 0, none⟩ = some (.string ⟨#[]⟩) := (own 0).1.trans (by go_simp)
  have xf0 : w1.frozen? ⟨w.heap.size + 1, 0, none⟩ = false := (own 0).2.trans (by go_simp)
  have xc1 : w1.cell? ⟨w.heap.size + 1, 1, none⟩ = some (.string ⟨#[]⟩) := (own 1).1.trans (by go_simp)
  have xf1 : w1.frozen? ⟨w.heap.size + 1, 1, none⟩ = false := (own 1).2.trans (by go_simp)
  have xc2 : w1.cell? ⟨w.heap.size + 1, 2, none⟩ = some (.string ⟨#[]⟩) := (own 2).1.trans (by go_simp)
  have xf2 : w1.frozen? ⟨w.heap.size + 1, 2, none⟩ = false := (own 2).2.trans (by go_simp)
  have xc3 : w1.cell? ⟨w.heap.size + 1, 3, none⟩ = some (.string ⟨#[]⟩) := (own 3).1.trans (by go_simp)
  have xf3 : w1.frozen? ⟨w.heap.size + 1, 3, none⟩ = false := (own 3).2.trans (by go_simp)
  have xc4 : w1.cell? ⟨w.heap.size + 1, 4, none⟩ = some (.string ⟨#[]⟩) := (own 4).1.trans (by go_simp)
  have xf4 : w1.frozen? ⟨w.heap.size + 1, 4, none⟩ = false := (own 4).2.trans (by go_simp)
  have xc5 : w1.cell? ⟨w.heap.size + 1, 5, none⟩ = some (.string ⟨#[]⟩) := (own 5).1.trans (by go_simp)
  have xf5 : w1.frozen? ⟨w.heap.size + 1, 5, none⟩ = false := (own 5).2.trans (by go_simp)
  have xc6 : w1.cell? ⟨w.heap.size + 1, 6, none⟩ = some (.bool false) := (own 6).1.trans (by go_simp)
  have xf6 : w1.frozen? ⟨w.heap.size + 1, 6, none⟩ = false := (own 6).2.trans (by go_simp)
  have hz : w.heap.size + 1 < w1.heap.size := by have := hw1.size; simp at this; omega
  have hz2 : w.heap.size < w1.heap.size := by omega
  have hB : Grew w w1 := gw_trans (gw_alloc (gw_alloc gw_refl _) _) hw1
  clear own hw1 HO
  go_wp2
  refine bodyPost_ret (v := .agg #[.string ⟨#[]⟩, .string b, .string ⟨#[]⟩, .string d, .string e, .string f, .bool true]) ?_ rfl ?_
  · simp [results, Try.results7, go_sem, *]
  · refine ⟨rfl, ?_⟩
    repeat (first | (with_reducible refine gw_alloc ?_ _) | (with_reducible refine gw_set ?_ (show w.heap.size ≤ w.heap.size + 1 by omega) _) | (with_reducible refine gw_set ?_ (show w.heap.size ≤ w1.heap.size + 1 by omega) _))
    with_reducible exact hB

set_option maxRecDepth 20000 in
set_option maxHeartbeats 1000000 in
theorem ofF_1101 (p q n : Nat) (a b c d e f : ByteArray) (w : World) (hp : p < 256) (hq : q < 256) (ho : one p q = ⟨a, b, c, d, e, f⟩) (h0 : (bits BinOp.and IntKind.u8 (n : Int) 1 == 1) = true) (h1 : (bits BinOp.and IntKind.u8 (n : Int) 2 == 2) = true) (h2 : (bits BinOp.and IntKind.u8 (n : Int) 4 == 4) = false) (h3 : (bits BinOp.and IntKind.u8 (n : Int) 8 == 8) = true) :
    Calls Try.prog 7 #[.agg #[.int .u8 p, .int .u8 q, .int .u8 n]] w fun r w' => r = .returned (.agg #[.string a, .string b, .string ⟨#[]⟩, .string d, .string e, .string f, .bool true]) ∧ Grew w w' := by
  have HO := hid ho; clear ho
  go_enter Try.func7, Try.ntmps7
  go_wp2_with fail
  refine (one_any p q _ hp hq).mono ?_
  rintro r w1 ⟨rfl, hw1⟩
  rw [HO.out]
  simp only [val]
  have c2 : w1.cell? ⟨w.heap.size, 2, none⟩ = some (.int .u8 n) := (own_cells hw1.toBelow _ (by simp <;> omega) _).1.trans (by go_simp)
  have own := own_cells hw1.toBelow (w.heap.size + 1) (by simp)
  have xc0 : w1.cell? ⟨w.heap.size + 1, 0, none⟩ = some (.string ⟨#[]⟩) := (own 0).1.trans (by go_simp)
  have xf0 : w1.frozen? ⟨w.heap.size + 1, 0, none⟩ = false := (own 0).2.trans (by go_simp)
  have xc1 : w1.cell? ⟨w.heap.size + 1, 1, none⟩ = some (.string ⟨#[]⟩) := (own 1).1.trans (by go_simp)
  have xf1 : w1.frozen? ⟨w.heap.size + 1, 1, none⟩ = false := (own 1).2.trans (by go_simp)
  have xc2 : w1.cell? ⟨w.heap.size + 1, 2, none⟩ = some (.string ⟨#[]⟩) := (own 2).1.trans (by go_simp)
  have xf2 : w1.frozen? ⟨w.heap.size + 1, 2, none⟩ = false := (own 2).2.trans (by go_simp)
  have xc3 : w1.cell? ⟨w.heap.size + 1, 3, none⟩ = some (.string ⟨#[]⟩) := (own 3).1.trans (by go_simp)
  have xf3 : w1.frozen? ⟨w.heap.size + 1, 3, none⟩ = false := (own 3).2.trans (by go_simp)
  have xc4 : w1.cell? ⟨w.heap.size + 1, 4, none⟩ = some (.string ⟨#[]⟩) := (own 4).1.trans (by go_simp)
  have xf4 : w1.frozen? ⟨w.heap.size + 1, 4, none⟩ = false := (own 4).2.trans (by go_simp)
  have xc5 : w1.cell? ⟨w.heap.size + 1, 5, none⟩ = some (.string ⟨#[]⟩) := (own 5).1.trans (by go_simp)
  have xf5 : w1.frozen? ⟨w.heap.size + 1, 5, none⟩ = false := (own 5).2.trans (by go_simp)
  have xc6 : w1.cell? ⟨w.heap.size + 1, 6, none⟩ = some (.bool false) := (own 6).1.trans (by go_simp)
  have xf6 : w1.frozen? ⟨w.heap.size + 1, 6, none⟩ = false := (own 6).2.trans (by go_simp)
  have hz : w.heap.size + 1 < w1.heap.size := by have := hw1.size; simp at this; omega
  have hz2 : w.heap.size < w1.heap.size := by omega
  have hB : Grew w w1 := gw_trans (gw_alloc (gw_alloc gw_refl _) _) hw1
  clear own hw1 HO
  go_wp2
  refine bodyPost_ret (v := .agg #[.string a, .string b, .string ⟨#[]⟩, .string d, .string e, .string f, .bool true]) ?_ rfl ?_
  · simp [results, Try.results7, go_sem, *]
  · refine ⟨rfl, ?_⟩
    repeat (first | (with_reducible refine gw_alloc ?_ _) | (with_reducible refine gw_set ?_ (show w.heap.size ≤ w.heap.size + 1 by omega) _) | (with_reducible refine gw_set ?_ (show w.heap.size ≤ w1.heap.size + 1 by omega) _))
    with_reducible exact hB

set_option maxRecDepth 20000 in
set_option maxHeartbeats 1000000 in
theorem ofF_0011 (p q n : Nat) (a b c d e f : ByteArray) (w : World) (hp : p < 256) (hq : q < 256) (ho : one p q = ⟨a, b, c, d, e, f⟩) (h0 : (bits BinOp.and IntKind.u8 (n : Int) 1 == 1) = false) (h1 : (bits BinOp.and IntKind.u8 (n : Int) 2 == 2) = false) (h2 : (bits BinOp.and IntKind.u8 (n : Int) 4 == 4) = true) (h3 : (bits BinOp.and IntKind.u8 (n : Int) 8 == 8) = true) :
    Calls Try.prog 7 #[.agg #[.int .u8 p, .int .u8 q, .int .u8 n]] w fun r w' => r = .returned (.agg #[.string ⟨#[]⟩, .string ⟨#[]⟩, .string c, .string d, .string e, .string f, .bool true]) ∧ Grew w w' := by
  have HO := hid ho; clear ho
  go_enter Try.func7, Try.ntmps7
  go_wp2_with fail
  refine (one_any p q _ hp hq).mono ?_
  rintro r w1 ⟨rfl, hw1⟩
  rw [HO.out]
  simp only [val]
  have c2 : w1.cell? ⟨w.heap.size, 2, none⟩ = some (.int .u8 n) := (own_cells hw1.toBelow _ (by simp <;> omega) _).1.trans (by go_simp)
  have own := own_cells hw1.toBelow (w.heap.size + 1) (by simp)
  have xc0 : w1.cell? ⟨w.heap.size + 1, 0, none⟩ = some (.string ⟨#[]⟩) := (own 0).1.trans (by go_simp)
  have xf0 : w1.frozen? ⟨w.heap.size + 1, 0, none⟩ = false := (own 0).2.trans (by go_simp)
  have xc1 : w1.cell? ⟨w.heap.size + 1, 1, none⟩ = some (.string ⟨#[]⟩) := (own 1).1.trans (by go_simp)
  have xf1 : w1.frozen? ⟨w.heap.size + 1, 1, none⟩ = false := (own 1).2.trans (by go_simp)
  have xc2 : w1.cell? ⟨w.heap.size + 1, 2, none⟩ = some (.string ⟨#[]⟩) := (own 2).1.trans (by go_simp)
  have xf2 : w1.frozen? ⟨w.heap.size + 1, 2, none⟩ = false := (own 2).2.trans (by go_simp)
  have xc3 : w1.cell? ⟨w.heap.size + 1, 3, none⟩ = some (.string ⟨#[]⟩) := (own 3).1.trans (by go_simp)
  have xf3 : w1.frozen? ⟨w.heap.size + 1, 3, none⟩ = false := (own 3).2.trans (by go_simp)
  have xc4 : w1.cell? ⟨w.heap.size + 1, 4, none⟩ = some (.string ⟨#[]⟩) := (own 4).1.trans (by go_simp)
  have xf4 : w1.frozen? ⟨w.heap.size + 1, 4, none⟩ = false := (own 4).2.trans (by go_simp)
  have xc5 : w1.cell? ⟨w.heap.size + 1, 5, none⟩ = some (.string ⟨#[]⟩) := (own 5).1.trans (by go_simp)
  have xf5 : w1.frozen? ⟨w.heap.size + 1, 5, none⟩ = false := (own 5).2.trans (by go_simp)
  have xc6 : w1.cell? ⟨w.heap.size + 1, 6, none⟩ = some (.bool false) := (own 6).1.trans (by go_simp)
  have xf6 : w1.frozen? ⟨w.heap.size + 1, 6, none⟩ = false := (own 6).2.trans (by go_simp)
  have hz : w.heap.size + 1 < w1.heap.size := by have := hw1.size; simp at this; omega
  have hz2 : w.heap.size < w1.heap.size := by omega
  have hB : Grew w w1 := gw_trans (gw_alloc (gw_alloc gw_refl _) _) hw1
  clear own hw1 HO
  go_wp2
  refine bodyPost_ret (v := .agg #[.string ⟨#[]⟩, .string ⟨#[]⟩, .string c, .string d, .string e, .string f, .bool true]) ?_ rfl ?_
  · simp [results, Try.results7, go_sem, *]
  · refine ⟨rfl, ?_⟩
    repeat (first | (with_reducible refine gw_alloc ?_ _) | (with_reducible refine gw_set ?_ (show w.heap.size ≤ w.heap.size + 1 by omega) _) | (with_reducible refine gw_set ?_ (show w.heap.size ≤ w1.heap.size + 1 by omega) _))
    with_reducible exact hB

set_option maxRecDepth 20000 in
set_option maxHeartbeats 1000000 in
theorem ofF_1011 (p q n : Nat) (a b c d e f : ByteArray) (w : World) (hp : p < 256) (hq : q < 256) (ho : one p q = ⟨a, b, c, d, e, f⟩) (h0 : (bits BinOp.and IntKind.u8 (n : Int) 1 == 1) = true) (h1 : (bits BinOp.and IntKind.u8 (n : Int) 2 == 2) = false) (h2 : (bits BinOp.and IntKind.u8 (n : Int) 4 == 4) = true) (h3 : (bits BinOp.and IntKind.u8 (n : Int) 8 == 8) = true) :
    Calls Try.prog 7 #[.agg #[.int .u8 p, .int .u8 q, .int .u8 n]] w fun r w' => r = .returned (.agg #[.string a, .string ⟨#[]⟩, .string c, .string d, .string e, .string f, .bool true]) ∧ Grew w w' := by
  have HO := hid ho; clear ho
  go_enter Try.func7, Try.ntmps7
  go_wp2_with fail
  refine (one_any p q _ hp hq).mono ?_
  rintro r w1 ⟨rfl, hw1⟩
  rw [HO.out]
  simp only [val]
  have c2 : w1.cell? ⟨w.heap.size, 2, none⟩ = some (.int .u8 n) := (own_cells hw1.toBelow _ (by simp <;> omega) _).1.trans (by go_simp)
  have own := own_cells hw1.toBelow (w.heap.size + 1) (by simp)
  have xc0 : w1.cell? ⟨w.heap.size + 1, 0, none⟩ = some (.string ⟨#[]⟩) := (own 0).1.trans (by go_simp)
  have xf0 : w1.frozen? ⟨w.heap.size + 1, 0, none⟩ = false := (own 0).2.trans (by go_simp)
  have xc1 : w1.cell? ⟨w.heap.size + 1, 1, none⟩ = some (.string ⟨#[]⟩) := (own 1).1.trans (by go_simp)
  have xf1 : w1.frozen? ⟨w.heap.size + 1, 1, none⟩ = false := (own 1).2.trans (by go_simp)
  have xc2 : w1.cell? ⟨w.heap.size + 1, 2, none⟩ = some (.string ⟨#[]⟩) := (own 2).1.trans (by go_simp)
  have xf2 : w1.frozen? ⟨w.heap.size + 1, 2, none⟩ = false := (own 2).2.trans (by go_simp)
  have xc3 : w1.cell? ⟨w.heap.size + 1, 3, none⟩ = some (.string ⟨#[]⟩) := (own 3).1.trans (by go_simp)
  have xf3 : w1.frozen? ⟨w.heap.size + 1, 3, none⟩ = false := (own 3).2.trans (by go_simp)
  have xc4 : w1.cell? ⟨w.heap.size + 1, 4, none⟩ = some (.string ⟨#[]⟩) := (own 4).1.trans (by go_simp)
  have xf4 : w1.frozen? ⟨w.heap.size + 1, 4, none⟩ = false := (own 4).2.trans (by go_simp)
  have xc5 : w1.cell? ⟨w.heap.size + 1, 5, none⟩ = some (.string ⟨#[]⟩) := (own 5).1.trans (by go_simp)
  have xf5 : w1.frozen? ⟨w.heap.size + 1, 5, none⟩ = false := (own 5).2.trans (by go_simp)
  have xc6 : w1.cell? ⟨w.heap.size + 1, 6, none⟩ = some (.bool false) := (own 6).1.trans (by go_simp)
  have xf6 : w1.frozen? ⟨w.heap.size + 1, 6, none⟩ = false := (own 6).2.trans (by go_simp)
  have hz : w.heap.size + 1 < w1.heap.size := by have := hw1.size; simp at this; omega
  have hz2 : w.heap.size < w1.heap.size := by omega
  have hB : Grew w w1 := gw_trans (gw_alloc (gw_alloc gw_refl _) _) hw1
  clear own hw1 HO
  go_wp2
  refine bodyPost_ret (v := .agg #[.string a, .string ⟨#[]⟩, .string c, .string d, .string e, .string f, .bool true]) ?_ rfl ?_
  · simp [results, Try.results7, go_sem, *]
  · refine ⟨rfl, ?_⟩
    repeat (first | (with_reducible refine gw_alloc ?_ _) | (with_reducible refine gw_set ?_ (show w.heap.size ≤ w.heap.size + 1 by omega) _) | (with_reducible refine gw_set ?_ (show w.heap.size ≤ w1.heap.size + 1 by omega) _))
    with_reducible exact hB

set_option maxRecDepth 20000 in
set_option maxHeartbeats 1000000 in
theorem ofF_0111 (p q n : Nat) (a b c d e f : ByteArray) (w : World) (hp : p < 256) (hq : q < 256) (ho : one p q = ⟨a, b, c, d, e, f⟩) (h0 : (bits BinOp.and IntKind.u8 (n : Int) 1 == 1) = false) (h1 : (bits BinOp.and IntKind.u8 (n : Int) 2 == 2) = true) (h2 : (bits BinOp.and IntKind.u8 (n : Int) 4 == 4) = true) (h3 : (bits BinOp.and IntKind.u8 (n : Int) 8 == 8) = true) :
    Calls Try.prog 7 #[.agg #[.int .u8 p, .int .u8 q, .int .u8 n]] w fun r w' => r = .returned (.agg #[.string ⟨#[]⟩, .string b, .string c, .string d, .string e, .string f, .bool true]) ∧ Grew w w' := by
  have HO := hid ho; clear ho
  go_enter Try.func7, Try.ntmps7
  go_wp2_with fail
  refine (one_any p q _ hp hq).mono ?_
  rintro r w1 ⟨rfl, hw1⟩
  rw [HO.out]
  simp only [val]
  have c2 : w1.cell? ⟨w.heap.size, 2, none⟩ = some (.int .u8 n) := (own_cells hw1.toBelow _ (by simp <;> omega) _).1.trans (by go_simp)
  have own := own_cells hw1.toBelow (w.heap.size + 1) (by simp)
  have xc0 : w1.cell? ⟨w.heap.size + 1, 0, none⟩ = some (.string ⟨#[]⟩) := (own 0).1.trans (by go_simp)
  have xf0 : w1.frozen? ⟨w.heap.size + 1, 0, none⟩ = false := (own 0).2.trans (by go_simp)
  have xc1 : w1.cell? ⟨w.heap.size + 1, 1, none⟩ = some (.string ⟨#[]⟩) := (own 1).1.trans (by go_simp)
  have xf1 : w1.frozen? ⟨w.heap.size + 1, 1, none⟩ = false := (own 1).2.trans (by go_simp)
  have xc2 : w1.cell? ⟨w.heap.size + 1, 2, none⟩ = some (.string ⟨#[]⟩) := (own 2).1.trans (by go_simp)
  have xf2 : w1.frozen? ⟨w.heap.size + 1, 2, none⟩ = false := (own 2).2.trans (by go_simp)
  have xc3 : w1.cell? ⟨w.heap.size + 1, 3, none⟩ = some (.string ⟨#[]⟩) := (own 3).1.trans (by go_simp)
  have xf3 : w1.frozen? ⟨w.heap.size + 1, 3, none⟩ = false := (own 3).2.trans (by go_simp)
  have xc4 : w1.cell? ⟨w.heap.size + 1, 4, none⟩ = some (.string ⟨#[]⟩) := (own 4).1.trans (by go_simp)
  have xf4 : w1.frozen? ⟨w.heap.size + 1, 4, none⟩ = false := (own 4).2.trans (by go_simp)
  have xc5 : w1.cell? ⟨w.heap.size + 1, 5, none⟩ = some (.string ⟨#[]⟩) := (own 5).1.trans (by go_simp)
  have xf5 : w1.frozen? ⟨w.heap.size + 1, 5, none⟩ = false := (own 5).2.trans (by go_simp)
  have xc6 : w1.cell? ⟨w.heap.size + 1, 6, none⟩ = some (.bool false) := (own 6).1.trans (by go_simp)
  have xf6 : w1.frozen? ⟨w.heap.size + 1, 6, none⟩ = false := (own 6).2.trans (by go_simp)
  have hz : w.heap.size + 1 < w1.heap.size := by have := hw1.size; simp at this; omega
  have hz2 : w.heap.size < w1.heap.size := by omega
  have hB : Grew w w1 := gw_trans (gw_alloc (gw_alloc gw_refl _) _) hw1
  clear own hw1 HO
  go_wp2
  refine bodyPost_ret (v := .agg #[.string ⟨#[]⟩, .string b, .string c, .string d, .string e, .string f, .bool true]) ?_ rfl ?_
  · simp [results, Try.results7, go_sem, *]
  · refine ⟨rfl, ?_⟩
    repeat (first | (with_reducible refine gw_alloc ?_ _) | (with_reducible refine gw_set ?_ (show w.heap.size ≤ w.heap.size + 1 by omega) _) | (with_reducible refine gw_set ?_ (show w.heap.size ≤ w1.heap.size + 1 by omega) _))
    with_reducible exact hB

set_option maxRecDepth 20000 in
set_option maxHeartbeats 1000000 in
theorem ofF_1111 (p q n : Nat) (a b c d e f : ByteArray) (w : World) (hp : p < 256) (hq : q < 256) (ho : one p q = ⟨a, b, c, d, e, f⟩) (h0 : (bits BinOp.and IntKind.u8 (n : Int) 1 == 1) = true) (h1 : (bits BinOp.and IntKind.u8 (n : Int) 2 == 2) = true) (h2 : (bits BinOp.and IntKind.u8 (n : Int) 4 == 4) = true) (h3 : (bits BinOp.and IntKind.u8 (n : Int) 8 == 8) = true) :
    Calls Try.prog 7 #[.agg #[.int .u8 p, .int .u8 q, .int .u8 n]] w fun r w' => r = .returned (.agg #[.string a, .string b, .string c, .string d, .string e, .string f, .bool true]) ∧ Grew w w' := by
  have HO := hid ho; clear ho
  go_enter Try.func7, Try.ntmps7
  go_wp2_with fail
  refine (one_any p q _ hp hq).mono ?_
  rintro r w1 ⟨rfl, hw1⟩
  rw [HO.out]
  simp only [val]
  have c2 : w1.cell? ⟨w.heap.size, 2, none⟩ = some (.int .u8 n) := (own_cells hw1.toBelow _ (by simp <;> omega) _).1.trans (by go_simp)
  have own := own_cells hw1.toBelow (w.heap.size + 1) (by simp)
  have xc0 : w1.cell? ⟨w.heap.size + 1, 0, none⟩ = some (.string ⟨#[]⟩) := (own 0).1.trans (by go_simp)
  have xf0 : w1.frozen? ⟨w.heap.size + 1, 0, none⟩ = false := (own 0).2.trans (by go_simp)
  have xc1 : w1.cell? ⟨w.heap.size + 1, 1, none⟩ = some (.string ⟨#[]⟩) := (own 1).1.trans (by go_simp)
  have xf1 : w1.frozen? ⟨w.heap.size + 1, 1, none⟩ = false := (own 1).2.trans (by go_simp)
  have xc2 : w1.cell? ⟨w.heap.size + 1, 2, none⟩ = some (.string ⟨#[]⟩) := (own 2).1.trans (by go_simp)
  have xf2 : w1.frozen? ⟨w.heap.size + 1, 2, none⟩ = false := (own 2).2.trans (by go_simp)
  have xc3 : w1.cell? ⟨w.heap.size + 1, 3, none⟩ = some (.string ⟨#[]⟩) := (own 3).1.trans (by go_simp)
  have xf3 : w1.frozen? ⟨w.heap.size + 1, 3, none⟩ = false := (own 3).2.trans (by go_simp)
  have xc4 : w1.cell? ⟨w.heap.size + 1, 4, none⟩ = some (.string ⟨#[]⟩) := (own 4).1.trans (by go_simp)
  have xf4 : w1.frozen? ⟨w.heap.size + 1, 4, none⟩ = false := (own 4).2.trans (by go_simp)
  have xc5 : w1.cell? ⟨w.heap.size + 1, 5, none⟩ = some (.string ⟨#[]⟩) := (own 5).1.trans (by go_simp)
  have xf5 : w1.frozen? ⟨w.heap.size + 1, 5, none⟩ = false := (own 5).2.trans (by go_simp)
  have xc6 : w1.cell? ⟨w.heap.size + 1, 6, none⟩ = some (.bool false) := (own 6).1.trans (by go_simp)
  have xf6 : w1.frozen? ⟨w.heap.size + 1, 6, none⟩ = false := (own 6).2.trans (by go_simp)
  have hz : w.heap.size + 1 < w1.heap.size := by have := hw1.size; simp at this; omega
  have hz2 : w.heap.size < w1.heap.size := by omega
  have hB : Grew w w1 := gw_trans (gw_alloc (gw_alloc gw_refl _) _) hw1
  clear own hw1 HO
  go_wp2
  refine bodyPost_ret (v := .agg #[.string a, .string b, .string c, .string d, .string e, .string f, .bool true]) ?_ rfl ?_
  · simp [results, Try.results7, go_sem, *]
  · refine ⟨rfl, ?_⟩
    repeat (first | (with_reducible refine gw_alloc ?_ _) | (with_reducible refine gw_set ?_ (show w.heap.size ≤ w.heap.size + 1 by omega) _) | (with_reducible refine gw_set ?_ (show w.heap.size ≤ w1.heap.size + 1 by omega) _))
    with_reducible exact hB

theorem ofF_any (p q n : Nat) (w : World) (hp : p < 256) (hq : q < 256) :
    Calls Try.prog 7 #[.agg #[.int .u8 p, .int .u8 q, .int .u8 n]] w fun r w' => r = .returned (valF (ofF p q n)) ∧ Grew w w' := by
  obtain ⟨⟨a, b, c, d, e, f⟩, ho⟩ : ∃ t, one p q = t := ⟨_, rfl⟩
  unfold ofF bitF
  rw [ho]
  cases h0 : (bits BinOp.and IntKind.u8 (n : Int) 1 == 1)
  · cases h1 : (bits BinOp.and IntKind.u8 (n : Int) 2 == 2)
    · cases h2 : (bits BinOp.and IntKind.u8 (n : Int) 4 == 4)
      · cases h3 : (bits BinOp.and IntKind.u8 (n : Int) 8 == 8)
        · exact ofF_0000 p q n a b c d e f w hp hq ho h0 h1 h2 h3
        · exact ofF_0001 p q n a b c d e f w hp hq ho h0 h1 h2 h3
      · cases h3 : (bits BinOp.and IntKind.u8 (n : Int) 8 == 8)
        · exact ofF_0010 p q n a b c d e f w hp hq ho h0 h1 h2 h3
        · exact ofF_0011 p q n a b c d e f w hp hq ho h0 h1 h2 h3
    · cases h2 : (bits BinOp.and IntKind.u8 (n : Int) 4 == 4)
      · cases h3 : (bits BinOp.and IntKind.u8 (n : Int) 8 == 8)
        · exact ofF_0100 p q n a b c d e f w hp hq ho h0 h1 h2 h3
        · exact ofF_0101 p q n a b c d e f w hp hq ho h0 h1 h2 h3
      · cases h3 : (bits BinOp.and IntKind.u8 (n : Int) 8 == 8)
        · exact ofF_0110 p q n a b c d e f w hp hq ho h0 h1 h2 h3
        · exact ofF_0111 p q n a b c d e f w hp hq ho h0 h1 h2 h3
  · cases h1 : (bits BinOp.and IntKind.u8 (n : Int) 2 == 2)
    · cases h2 : (bits BinOp.and IntKind.u8 (n : Int) 4 == 4)
      · cases h3 : (bits BinOp.and IntKind.u8 (n : Int) 8 == 8)
        · exact ofF_1000 p q n a b c d e f w hp hq ho h0 h1 h2 h3
        · exact ofF_1001 p q n a b c d e f w hp hq ho h0 h1 h2 h3
      · cases h3 : (bits BinOp.and IntKind.u8 (n : Int) 8 == 8)
        · exact ofF_1010 p q n a b c d e f w hp hq ho h0 h1 h2 h3
        · exact ofF_1011 p q n a b c d e f w hp hq ho h0 h1 h2 h3
    · cases h2 : (bits BinOp.and IntKind.u8 (n : Int) 4 == 4)
      · cases h3 : (bits BinOp.and IntKind.u8 (n : Int) 8 == 8)
        · exact ofF_1100 p q n a b c d e f w hp hq ho h0 h1 h2 h3
        · exact ofF_1101 p q n a b c d e f w hp hq ho h0 h1 h2 h3
      · cases h3 : (bits BinOp.and IntKind.u8 (n : Int) 8 == 8)
        · exact ofF_1110 p q n a b c d e f w hp hq ho h0 h1 h2 h3
        · exact ofF_1111 p q n a b c d e f w hp hq ho h0 h1 h2 h3
end Go.Proofs.Ytgfgfggoofjeeaa
