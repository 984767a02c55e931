/-
  THE CONTRACT of get of a nil Reader: the zero value.
-/
import Derived.Test.YtohnhjmiblgkkaaCNil
namespace Go.Proofs.Ytohnhjmiblgkkaa
open Go.RowKit

/-- the three variables of get -/
def ZG (x : World) (q : Nat) : Prop := x.cell? ⟨q, 0, none⟩ = some (.int .u8 0) ∧ x.frozen? ⟨q, 0, none⟩ = false ∧ x.cell? ⟨q, 1, none⟩ = some (.int .u64 0) ∧ x.frozen? ⟨q, 1, none⟩ = false ∧ x.cell? ⟨q, 2, none⟩ = some (.string ⟨#[]⟩) ∧ x.frozen? ⟨q, 2, none⟩ = false ∧ x.cell? ⟨q, 3, none⟩ = some (.string ⟨#[]⟩) ∧ x.frozen? ⟨q, 3, none⟩ = false ∧ x.cell? ⟨q, 4, none⟩ = some (.string ⟨#[]⟩) ∧ x.frozen? ⟨q, 4, none⟩ = false ∧ x.cell? ⟨q, 5, none⟩ = some (.string ⟨#[]⟩) ∧ x.frozen? ⟨q, 5, none⟩ = false ∧ x.cell? ⟨q, 6, none⟩ = some (.string ⟨#[]⟩) ∧ x.frozen? ⟨q, 6, none⟩ = false ∧ x.cell? ⟨q, 7, none⟩ = some (.string ⟨#[]⟩) ∧ x.frozen? ⟨q, 7, none⟩ = false ∧ x.cell? ⟨q + 1, 0, none⟩ = some (.string ⟨#[]⟩) ∧ x.frozen? ⟨q + 1, 0, none⟩ = false ∧ x.cell? ⟨q + 1, 1, none⟩ = some (.string ⟨#[]⟩) ∧ x.frozen? ⟨q + 1, 1, none⟩ = false ∧ x.cell? ⟨q + 1, 2, none⟩ = some (.string ⟨#[]⟩) ∧ x.frozen? ⟨q + 1, 2, none⟩ = false ∧ x.cell? ⟨q + 1, 3, none⟩ = some (.string ⟨#[]⟩) ∧ x.frozen? ⟨q + 1, 3, none⟩ = false ∧ x.cell? ⟨q + 1, 4, none⟩ = some (.string ⟨#[]⟩) ∧ x.frozen? ⟨q + 1, 4, none⟩ = false ∧ x.cell? ⟨q + 1, 5, none⟩ = some (.string ⟨#[]⟩) ∧ x.frozen? ⟨q + 1, 5, none⟩ = false ∧ x.cell? ⟨q + 1 + 1, 0, none⟩ = some (.int .u8 0) ∧ x.frozen? ⟨q + 1 + 1, 0, none⟩ = false ∧ x.cell? ⟨q + 1 + 1, 1, none⟩ = some (.int .u64 0) ∧ x.frozen? ⟨q + 1 + 1, 1, none⟩ = false ∧ x.cell? ⟨q + 1 + 1, 2, none⟩ = some (.string ⟨#[]⟩) ∧ x.frozen? ⟨q + 1 + 1, 2, none⟩ = false ∧ x.cell? ⟨q + 1 + 1, 3, none⟩ = some (.string ⟨#[]⟩) ∧ x.frozen? ⟨q + 1 + 1, 3, none⟩ = false ∧ x.cell? ⟨q + 1 + 1, 4, none⟩ = some (.string ⟨#[]⟩) ∧ x.frozen? ⟨q + 1 + 1, 4, none⟩ = false ∧ x.cell? ⟨q + 1 + 1, 5, none⟩ = some (.string ⟨#[]⟩) ∧ x.frozen? ⟨q + 1 + 1, 5, none⟩ = false ∧ x.cell? ⟨q + 1 + 1, 6, none⟩ = some (.string ⟨#[]⟩) ∧ x.frozen? ⟨q + 1 + 1, 6, none⟩ = false ∧ x.cell? ⟨q + 1 + 1, 7, none⟩ = some (.string ⟨#[]⟩) ∧ x.frozen? ⟨q + 1 + 1, 7, none⟩ = false ∧ q + 1 + 1 < x.heap.size
set_option maxRecDepth 20000 in
set_option maxHeartbeats 1000000 in
theorem zg0 (w : World) : ZG (((w.alloc (.cells #[.int .u8 0, .int .u64 0, .string ⟨#[]⟩, .string ⟨#[]⟩, .string ⟨#[]⟩, .string ⟨#[]⟩, .string ⟨#[]⟩, .string ⟨#[]⟩] 31)).alloc (.cells #[.string ⟨#[]⟩, .string ⟨#[]⟩, .string ⟨#[]⟩, .string ⟨#[]⟩, .string ⟨#[]⟩, .string ⟨#[]⟩] 75)).alloc (.cells #[.int .u8 0, .int .u64 0, .string ⟨#[]⟩, .string ⟨#[]⟩, .string ⟨#[]⟩, .string ⟨#[]⟩, .string ⟨#[]⟩, .string ⟨#[]⟩] 31)) w.heap.size := by
  simp only [ZG]
  exact ⟨by go_simp, by go_simp, by go_simp, by go_simp, by go_simp, by go_simp, by go_simp, by go_simp, by go_simp, by go_simp, by go_simp, by go_simp, by go_simp, by go_simp, by go_simp, by go_simp, by go_simp, by go_simp, by go_simp, by go_simp, by go_simp, by go_simp, by go_simp, by go_simp, by go_simp, by go_simp, by go_simp, by go_simp, by go_simp, by go_simp, by go_simp, by go_simp, by go_simp, by go_simp, by go_simp, by go_simp, by go_simp, by go_simp, by go_simp, by go_simp, by go_simp, by go_simp, by go_simp, by go_simp, by simp⟩
theorem ZG.below {x y : World} {q : Nat} (h : ZG x q) (hb : Below x.heap.size x y) : ZG y q := by
  obtain ⟨c0_0, f0_0, c0_1, f0_1, c0_2, f0_2, c0_3, f0_3, c0_4, f0_4, c0_5, f0_5, c0_6, f0_6, c0_7, f0_7, c1_0, f1_0, c1_1, f1_1, c1_2, f1_2, c1_3, f1_3, c1_4, f1_4, c1_5, f1_5, c2_0, f2_0, c2_1, f2_1, c2_2, f2_2, c2_3, f2_3, c2_4, f2_4, c2_5, f2_5, c2_6, f2_6, c2_7, f2_7, hs⟩ := h
  have p0 := own_cells hb q (by omega)
  have p1 := own_cells hb (q + 1) (by omega)
  have p2 := own_cells hb (q + 1 + 1) hs
  exact ⟨(p0 _).1.trans c0_0, (p0 _).2.trans f0_0, (p0 _).1.trans c0_1, (p0 _).2.trans f0_1, (p0 _).1.trans c0_2, (p0 _).2.trans f0_2, (p0 _).1.trans c0_3, (p0 _).2.trans f0_3, (p0 _).1.trans c0_4, (p0 _).2.trans f0_4, (p0 _).1.trans c0_5, (p0 _).2.trans f0_5, (p0 _).1.trans c0_6, (p0 _).2.trans f0_6, (p0 _).1.trans c0_7, (p0 _).2.trans f0_7, (p1 _).1.trans c1_0, (p1 _).2.trans f1_0, (p1 _).1.trans c1_1, (p1 _).2.trans f1_1, (p1 _).1.trans c1_2, (p1 _).2.trans f1_2, (p1 _).1.trans c1_3, (p1 _).2.trans f1_3, (p1 _).1.trans c1_4, (p1 _).2.trans f1_4, (p1 _).1.trans c1_5, (p1 _).2.trans f1_5, (p2 _).1.trans c2_0, (p2 _).2.trans f2_0, (p2 _).1.trans c2_1, (p2 _).2.trans f2_1, (p2 _).1.trans c2_2, (p2 _).2.trans f2_2, (p2 _).1.trans c2_3, (p2 _).2.trans f2_3, (p2 _).1.trans c2_4, (p2 _).2.trans f2_4, (p2 _).1.trans c2_5, (p2 _).2.trans f2_5, (p2 _).1.trans c2_6, (p2 _).2.trans f2_6, (p2 _).1.trans c2_7, (p2 _).2.trans f2_7, Nat.lt_of_lt_of_le hs hb.size⟩

set_option maxRecDepth 20000 in
set_option maxHeartbeats 1000000 in
theorem gnil_0 (l : Int) (hl : -9223372036854775808 ≤ l ∧ l ≤ 9223372036854775807) (w : World) : Calls Try.prog 15 #[.pointer none, .int .u8 0, .int .i64 l] w (NPost w (.agg #[.int .u8 0, .int .u64 0, .string ⟨#[]⟩, .string ⟨#[]⟩, .string ⟨#[]⟩, .string ⟨#[]⟩, .string ⟨#[]⟩, .string ⟨#[]⟩])) := by
  have HL := hid hl
  have HZ := hid (zg0 w)
  have HB := hid (show Below w.heap.size w (((w.alloc (.cells #[.int .u8 0, .int .u64 0, .string ⟨#[]⟩, .string ⟨#[]⟩, .string ⟨#[]⟩, .string ⟨#[]⟩, .string ⟨#[]⟩, .string ⟨#[]⟩] 31)).alloc (.cells #[.string ⟨#[]⟩, .string ⟨#[]⟩, .string ⟨#[]⟩, .string ⟨#[]⟩, .string ⟨#[]⟩, .string ⟨#[]⟩] 75)).alloc (.cells #[.int .u8 0, .int .u64 0, .string ⟨#[]⟩, .string ⟨#[]⟩, .string ⟨#[]⟩, .string ⟨#[]⟩, .string ⟨#[]⟩, .string ⟨#[]⟩] 31)) from g_alloc (g_alloc (g_alloc g_refl _) _) _)
  clear hl
  go_enter Try.func15, Try.ntmps15
  go_wp2_with fail
  refine (number_n _).mono ?_
  rintro e w1 ⟨rfl, hb⟩
  obtain ⟨c0_0, f0_0, c0_1, f0_1, c0_2, f0_2, c0_3, f0_3, c0_4, f0_4, c0_5, f0_5, c0_6, f0_6, c0_7, f0_7, c1_0, f1_0, c1_1, f1_1, c1_2, f1_2, c1_3, f1_3, c1_4, f1_4, c1_5, f1_5, c2_0, f2_0, c2_1, f2_1, c2_2, f2_2, c2_3, f2_3, c2_4, f2_4, c2_5, f2_5, c2_6, f2_6, c2_7, f2_7, hs⟩ := HZ.out.below hb
  have HW := hid (g_trans HB.out hb)
  have hs1 : w.heap.size + 1 < w1.heap.size := by omega
  have hs0 : w.heap.size < w1.heap.size := by omega
  clear hb
  generalize hq : w.heap.size = q at *
  have HQ := hid hq
  clear hq
  go_wp2
  refine bodyPost_ret (v := .agg #[.int .u8 0, .int .u64 0, .string ⟨#[]⟩, .string ⟨#[]⟩, .string ⟨#[]⟩, .string ⟨#[]⟩, .string ⟨#[]⟩, .string ⟨#[]⟩]) ?_ rfl ?_
  · simp [results, Try.results15, go_sem, *]
  · have hq := HQ.out
    subst hq
    exact ⟨rfl, by repeat (first | with_reducible exact HW.out | with_reducible refine g_alloc ?_ _ | with_reducible refine n_set ?_ (by omega))⟩

set_option maxRecDepth 20000 in
set_option maxHeartbeats 1000000 in
theorem gnil_1 (l : Int) (hl : -9223372036854775808 ≤ l ∧ l ≤ 9223372036854775807) (w : World) : Calls Try.prog 15 #[.pointer none, .int .u8 1, .int .i64 l] w (NPost w (.agg #[.int .u8 0, .int .u64 0, .string ⟨#[]⟩, .string ⟨#[]⟩, .string ⟨#[]⟩, .string ⟨#[]⟩, .string ⟨#[]⟩, .string ⟨#[]⟩])) := by
  have HL := hid hl
  have HZ := hid (zg0 w)
  have HB := hid (show Below w.heap.size w (((w.alloc (.cells #[.int .u8 0, .int .u64 0, .string ⟨#[]⟩, .string ⟨#[]⟩, .string ⟨#[]⟩, .string ⟨#[]⟩, .string ⟨#[]⟩, .string ⟨#[]⟩] 31)).alloc (.cells #[.string ⟨#[]⟩, .string ⟨#[]⟩, .string ⟨#[]⟩, .string ⟨#[]⟩, .string ⟨#[]⟩, .string ⟨#[]⟩] 75)).alloc (.cells #[.int .u8 0, .int .u64 0, .string ⟨#[]⟩, .string ⟨#[]⟩, .string ⟨#[]⟩, .string ⟨#[]⟩, .string ⟨#[]⟩, .string ⟨#[]⟩] 31)) from g_alloc (g_alloc (g_alloc g_refl _) _) _)
  clear hl
  go_enter Try.func15, Try.ntmps15
  go_wp2_with fail
  refine (int_n _).mono ?_
  rintro e w1 ⟨rfl, hb⟩
  obtain ⟨c0_0, f0_0, c0_1, f0_1, c0_2, f0_2, c0_3, f0_3, c0_4, f0_4, c0_5, f0_5, c0_6, f0_6, c0_7, f0_7, c1_0, f1_0, c1_1, f1_1, c1_2, f1_2, c1_3, f1_3, c1_4, f1_4, c1_5, f1_5, c2_0, f2_0, c2_1, f2_1, c2_2, f2_2, c2_3, f2_3, c2_4, f2_4, c2_5, f2_5, c2_6, f2_6, c2_7, f2_7, hs⟩ := HZ.out.below hb
  have HW := hid (g_trans HB.out hb)
  have hs1 : w.heap.size + 1 < w1.heap.size := by omega
  have hs0 : w.heap.size < w1.heap.size := by omega
  clear hb
  generalize hq : w.heap.size = q at *
  have HQ := hid hq
  clear hq
  go_wp2
  refine bodyPost_ret (v := .agg #[.int .u8 0, .int .u64 0, .string ⟨#[]⟩, .string ⟨#[]⟩, .string ⟨#[]⟩, .string ⟨#[]⟩, .string ⟨#[]⟩, .string ⟨#[]⟩]) ?_ rfl ?_
  · simp [results, Try.results15, go_sem, *]
  · have hq := HQ.out
    subst hq
    exact ⟨rfl, by repeat (first | with_reducible exact HW.out | with_reducible refine g_alloc ?_ _ | with_reducible refine n_set ?_ (by omega))⟩

set_option maxRecDepth 20000 in
set_option maxHeartbeats 1000000 in
theorem gnil_2 (l : Int) (hl : -9223372036854775808 ≤ l ∧ l ≤ 9223372036854775807) (w : World) : Calls Try.prog 15 #[.pointer none, .int .u8 2, .int .i64 l] w (NPost w (.agg #[.int .u8 0, .int .u64 0, .string ⟨#[]⟩, .string ⟨#[]⟩, .string ⟨#[]⟩, .string ⟨#[]⟩, .string ⟨#[]⟩, .string ⟨#[]⟩])) := by
  have HL := hid hl
  have HZ := hid (zg0 w)
  have HB := hid (show Below w.heap.size w (((w.alloc (.cells #[.int .u8 0, .int .u64 0, .string ⟨#[]⟩, .string ⟨#[]⟩, .string ⟨#[]⟩, .string ⟨#[]⟩, .string ⟨#[]⟩, .string ⟨#[]⟩] 31)).alloc (.cells #[.string ⟨#[]⟩, .string ⟨#[]⟩, .string ⟨#[]⟩, .string ⟨#[]⟩, .string ⟨#[]⟩, .string ⟨#[]⟩] 75)).alloc (.cells #[.int .u8 0, .int .u64 0, .string ⟨#[]⟩, .string ⟨#[]⟩, .string ⟨#[]⟩, .string ⟨#[]⟩, .string ⟨#[]⟩, .string ⟨#[]⟩] 31)) from g_alloc (g_alloc (g_alloc g_refl _) _) _)
  clear hl
  go_enter Try.func15, Try.ntmps15
  go_wp2_with fail
  refine (small_n _).mono ?_
  rintro e w1 ⟨rfl, hb⟩
  obtain ⟨c0_0, f0_0, c0_1, f0_1, c0_2, f0_2, c0_3, f0_3, c0_4, f0_4, c0_5, f0_5, c0_6, f0_6, c0_7, f0_7, c1_0, f1_0, c1_1, f1_1, c1_2, f1_2, c1_3, f1_3, c1_4, f1_4, c1_5, f1_5, c2_0, f2_0, c2_1, f2_1, c2_2, f2_2, c2_3, f2_3, c2_4, f2_4, c2_5, f2_5, c2_6, f2_6, c2_7, f2_7, hs⟩ := HZ.out.below hb
  have HW := hid (g_trans HB.out hb)
  have hs1 : w.heap.size + 1 < w1.heap.size := by omega
  have hs0 : w.heap.size < w1.heap.size := by omega
  clear hb
  generalize hq : w.heap.size = q at *
  have HQ := hid hq
  clear hq
  go_wp2
  refine bodyPost_ret (v := .agg #[.int .u8 0, .int .u64 0, .string ⟨#[]⟩, .string ⟨#[]⟩, .string ⟨#[]⟩, .string ⟨#[]⟩, .string ⟨#[]⟩, .string ⟨#[]⟩]) ?_ rfl ?_
  · simp [results, Try.results15, go_sem, *]
  · have hq := HQ.out
    subst hq
    exact ⟨rfl, by repeat (first | with_reducible exact HW.out | with_reducible refine g_alloc ?_ _ | with_reducible refine n_set ?_ (by omega))⟩

set_option maxRecDepth 20000 in
set_option maxHeartbeats 1000000 in
theorem gnil_3 (l : Int) (hl : -9223372036854775808 ≤ l ∧ l ≤ 9223372036854775807) (w : World) : Calls Try.prog 15 #[.pointer none, .int .u8 3, .int .i64 l] w (NPost w (.agg #[.int .u8 0, .int .u64 0, .string ⟨#[]⟩, .string ⟨#[]⟩, .string ⟨#[]⟩, .string ⟨#[]⟩, .string ⟨#[]⟩, .string ⟨#[]⟩])) := by
  have HL := hid hl
  have HZ := hid (zg0 w)
  have HB := hid (show Below w.heap.size w (((w.alloc (.cells #[.int .u8 0, .int .u64 0, .string ⟨#[]⟩, .string ⟨#[]⟩, .string ⟨#[]⟩, .string ⟨#[]⟩, .string ⟨#[]⟩, .string ⟨#[]⟩] 31)).alloc (.cells #[.string ⟨#[]⟩, .string ⟨#[]⟩, .string ⟨#[]⟩, .string ⟨#[]⟩, .string ⟨#[]⟩, .string ⟨#[]⟩] 75)).alloc (.cells #[.int .u8 0, .int .u64 0, .string ⟨#[]⟩, .string ⟨#[]⟩, .string ⟨#[]⟩, .string ⟨#[]⟩, .string ⟨#[]⟩, .string ⟨#[]⟩] 31)) from g_alloc (g_alloc (g_alloc g_refl _) _) _)
  clear hl
  go_enter Try.func15, Try.ntmps15
  go_wp2_with fail
  refine (bool_n _).mono ?_
  rintro e w1 ⟨rfl, hb⟩
  obtain ⟨c0_0, f0_0, c0_1, f0_1, c0_2, f0_2, c0_3, f0_3, c0_4, f0_4, c0_5, f0_5, c0_6, f0_6, c0_7, f0_7, c1_0, f1_0, c1_1, f1_1, c1_2, f1_2, c1_3, f1_3, c1_4, f1_4, c1_5, f1_5, c2_0, f2_0, c2_1, f2_1, c2_2, f2_2, c2_3, f2_3, c2_4, f2_4, c2_5, f2_5, c2_6, f2_6, c2_7, f2_7, hs⟩ := HZ.out.below hb
  have HW := hid (g_trans HB.out hb)
  have hs1 : w.heap.size + 1 < w1.heap.size := by omega
  have hs0 : w.heap.size < w1.heap.size := by omega
  clear hb
  generalize hq : w.heap.size = q at *
  have HQ := hid hq
  clear hq
  go_wp2
  refine bodyPost_ret (v := .agg #[.int .u8 0, .int .u64 0, .string ⟨#[]⟩, .string ⟨#[]⟩, .string ⟨#[]⟩, .string ⟨#[]⟩, .string ⟨#[]⟩, .string ⟨#[]⟩]) ?_ rfl ?_
  · simp [results, Try.results15, go_sem, *]
  · have hq := HQ.out
    subst hq
    exact ⟨rfl, by repeat (first | with_reducible exact HW.out | with_reducible refine g_alloc ?_ _ | with_reducible refine n_set ?_ (by omega))⟩

set_option maxRecDepth 20000 in
set_option maxHeartbeats 1000000 in
theorem gnil_4 (l : Int) (hl : -9223372036854775808 ≤ l ∧ l ≤ 9223372036854775807) (w : World) : Calls Try.prog 15 #[.pointer none, .int .u8 4, .int .i64 l] w (NPost w (.agg #[.int .u8 0, .int .u64 0, .string ⟨#[]⟩, .string ⟨#[]⟩, .string ⟨#[]⟩, .string ⟨#[]⟩, .string ⟨#[]⟩, .string ⟨#[]⟩])) := by
  have HL := hid hl
  have HZ := hid (zg0 w)
  have HB := hid (show Below w.heap.size w (((w.alloc (.cells #[.int .u8 0, .int .u64 0, .string ⟨#[]⟩, .string ⟨#[]⟩, .string ⟨#[]⟩, .string ⟨#[]⟩, .string ⟨#[]⟩, .string ⟨#[]⟩] 31)).alloc (.cells #[.string ⟨#[]⟩, .string ⟨#[]⟩, .string ⟨#[]⟩, .string ⟨#[]⟩, .string ⟨#[]⟩, .string ⟨#[]⟩] 75)).alloc (.cells #[.int .u8 0, .int .u64 0, .string ⟨#[]⟩, .string ⟨#[]⟩, .string ⟨#[]⟩, .string ⟨#[]⟩, .string ⟨#[]⟩, .string ⟨#[]⟩] 31)) from g_alloc (g_alloc (g_alloc g_refl _) _) _)
  clear hl
  go_enter Try.func15, Try.ntmps15
  go_wp2_with fail
  refine (text_n _ _).mono ?_
  rintro e w1 ⟨rfl, hb⟩
  obtain ⟨c0_0, f0_0, c0_1, f0_1, c0_2, f0_2, c0_3, f0_3, c0_4, f0_4, c0_5, f0_5, c0_6, f0_6, c0_7, f0_7, c1_0, f1_0, c1_1, f1_1, c1_2, f1_2, c1_3, f1_3, c1_4, f1_4, c1_5, f1_5, c2_0, f2_0, c2_1, f2_1, c2_2, f2_2, c2_3, f2_3, c2_4, f2_4, c2_5, f2_5, c2_6, f2_6, c2_7, f2_7, hs⟩ := HZ.out.below hb
  have HW := hid (g_trans HB.out hb)
  have hs1 : w.heap.size + 1 < w1.heap.size := by omega
  have hs0 : w.heap.size < w1.heap.size := by omega
  clear hb
  generalize hq : w.heap.size = q at *
  have HQ := hid hq
  clear hq
  go_wp2
  refine bodyPost_ret (v := .agg #[.int .u8 0, .int .u64 0, .string ⟨#[]⟩, .string ⟨#[]⟩, .string ⟨#[]⟩, .string ⟨#[]⟩, .string ⟨#[]⟩, .string ⟨#[]⟩]) ?_ rfl ?_
  · simp [results, Try.results15, go_sem, *]
  · have hq := HQ.out
    subst hq
    exact ⟨rfl, by repeat (first | with_reducible exact HW.out | with_reducible refine g_alloc ?_ _ | with_reducible refine n_set ?_ (by omega))⟩

set_option maxRecDepth 20000 in
set_option maxHeartbeats 1000000 in
theorem gnil_5 (l : Int) (hl : -9223372036854775808 ≤ l ∧ l ≤ 9223372036854775807) (w : World) : Calls Try.prog 15 #[.pointer none, .int .u8 5, .int .i64 l] w (NPost w (.agg #[.int .u8 0, .int .u64 0, .string ⟨#[]⟩, .string ⟨#[]⟩, .string ⟨#[]⟩, .string ⟨#[]⟩, .string ⟨#[]⟩, .string ⟨#[]⟩])) := by
  have HL := hid hl
  have HZ := hid (zg0 w)
  have HB := hid (show Below w.heap.size w (((w.alloc (.cells #[.int .u8 0, .int .u64 0, .string ⟨#[]⟩, .string ⟨#[]⟩, .string ⟨#[]⟩, .string ⟨#[]⟩, .string ⟨#[]⟩, .string ⟨#[]⟩] 31)).alloc (.cells #[.string ⟨#[]⟩, .string ⟨#[]⟩, .string ⟨#[]⟩, .string ⟨#[]⟩, .string ⟨#[]⟩, .string ⟨#[]⟩] 75)).alloc (.cells #[.int .u8 0, .int .u64 0, .string ⟨#[]⟩, .string ⟨#[]⟩, .string ⟨#[]⟩, .string ⟨#[]⟩, .string ⟨#[]⟩, .string ⟨#[]⟩] 31)) from g_alloc (g_alloc (g_alloc g_refl _) _) _)
  clear hl
  go_enter Try.func15, Try.ntmps15
  go_wp2_with fail
  refine (object_n _).mono ?_
  rintro e w1 ⟨rfl, hb⟩
  obtain ⟨c0_0, f0_0, c0_1, f0_1, c0_2, f0_2, c0_3, f0_3, c0_4, f0_4, c0_5, f0_5, c0_6, f0_6, c0_7, f0_7, c1_0, f1_0, c1_1, f1_1, c1_2, f1_2, c1_3, f1_3, c1_4, f1_4, c1_5, f1_5, c2_0, f2_0, c2_1, f2_1, c2_2, f2_2, c2_3, f2_3, c2_4, f2_4, c2_5, f2_5, c2_6, f2_6, c2_7, f2_7, hs⟩ := HZ.out.below hb
  have HW := hid (g_trans HB.out hb)
  have hs1 : w.heap.size + 1 < w1.heap.size := by omega
  have hs0 : w.heap.size < w1.heap.size := by omega
  clear hb
  generalize hq : w.heap.size = q at *
  have HQ := hid hq
  clear hq
  go_wp2
  refine bodyPost_ret (v := .agg #[.int .u8 0, .int .u64 0, .string ⟨#[]⟩, .string ⟨#[]⟩, .string ⟨#[]⟩, .string ⟨#[]⟩, .string ⟨#[]⟩, .string ⟨#[]⟩]) ?_ rfl ?_
  · simp [results, Try.results15, go_sem, *]
  · have hq := HQ.out
    subst hq
    exact ⟨rfl, by repeat (first | with_reducible exact HW.out | with_reducible refine g_alloc ?_ _ | with_reducible refine n_set ?_ (by omega))⟩

set_option maxRecDepth 20000 in
set_option maxHeartbeats 1000000 in
theorem gnil_6 (l : Int) (hl : -9223372036854775808 ≤ l ∧ l ≤ 9223372036854775807) (w : World) : Calls Try.prog 15 #[.pointer none, .int .u8 6, .int .i64 l] w (NPost w (.agg #[.int .u8 0, .int .u64 0, .string ⟨#[]⟩, .string ⟨#[]⟩, .string ⟨#[]⟩, .string ⟨#[]⟩, .string ⟨#[]⟩, .string ⟨#[]⟩])) := by
  have HL := hid hl
  have HZ := hid (zg0 w)
  have HB := hid (show Below w.heap.size w (((w.alloc (.cells #[.int .u8 0, .int .u64 0, .string ⟨#[]⟩, .string ⟨#[]⟩, .string ⟨#[]⟩, .string ⟨#[]⟩, .string ⟨#[]⟩, .string ⟨#[]⟩] 31)).alloc (.cells #[.string ⟨#[]⟩, .string ⟨#[]⟩, .string ⟨#[]⟩, .string ⟨#[]⟩, .string ⟨#[]⟩, .string ⟨#[]⟩] 75)).alloc (.cells #[.int .u8 0, .int .u64 0, .string ⟨#[]⟩, .string ⟨#[]⟩, .string ⟨#[]⟩, .string ⟨#[]⟩, .string ⟨#[]⟩, .string ⟨#[]⟩] 31)) from g_alloc (g_alloc (g_alloc g_refl _) _) _)
  clear hl
  go_enter Try.func15, Try.ntmps15
  go_wp2_with fail
  refine (goal_n _).mono ?_
  rintro e w1 ⟨rfl, hb⟩
  obtain ⟨c0_0, f0_0, c0_1, f0_1, c0_2, f0_2, c0_3, f0_3, c0_4, f0_4, c0_5, f0_5, c0_6, f0_6, c0_7, f0_7, c1_0, f1_0, c1_1, f1_1, c1_2, f1_2, c1_3, f1_3, c1_4, f1_4, c1_5, f1_5, c2_0, f2_0, c2_1, f2_1, c2_2, f2_2, c2_3, f2_3, c2_4, f2_4, c2_5, f2_5, c2_6, f2_6, c2_7, f2_7, hs⟩ := HZ.out.below hb
  have HW := hid (g_trans HB.out hb)
  have hs1 : w.heap.size + 1 < w1.heap.size := by omega
  have hs0 : w.heap.size < w1.heap.size := by omega
  clear hb
  generalize hq : w.heap.size = q at *
  have HQ := hid hq
  clear hq
  go_wp2
  refine bodyPost_ret (v := .agg #[.int .u8 0, .int .u64 0, .string ⟨#[]⟩, .string ⟨#[]⟩, .string ⟨#[]⟩, .string ⟨#[]⟩, .string ⟨#[]⟩, .string ⟨#[]⟩]) ?_ rfl ?_
  · simp [results, Try.results15, go_sem, *]
  · have hq := HQ.out
    subst hq
    exact ⟨rfl, by repeat (first | with_reducible exact HW.out | with_reducible refine g_alloc ?_ _ | with_reducible refine n_set ?_ (by omega))⟩

set_option maxRecDepth 20000 in
set_option maxHeartbeats 1000000 in
theorem gnil_7 (l : Int) (hl : -9223372036854775808 ≤ l ∧ l ≤ 9223372036854775807) (w : World) : Calls Try.prog 15 #[.pointer none, .int .u8 7, .int .i64 l] w (NPost w (.agg #[.int .u8 0, .int .u64 0, .string ⟨#[]⟩, .string ⟨#[]⟩, .string ⟨#[]⟩, .string ⟨#[]⟩, .string ⟨#[]⟩, .string ⟨#[]⟩])) := by
  have HL := hid hl
  have HZ := hid (zg0 w)
  have HB := hid (show Below w.heap.size w (((w.alloc (.cells #[.int .u8 0, .int .u64 0, .string ⟨#[]⟩, .string ⟨#[]⟩, .string ⟨#[]⟩, .string ⟨#[]⟩, .string ⟨#[]⟩, .string ⟨#[]⟩] 31)).alloc (.cells #[.string ⟨#[]⟩, .string ⟨#[]⟩, .string ⟨#[]⟩, .string ⟨#[]⟩, .string ⟨#[]⟩, .string ⟨#[]⟩] 75)).alloc (.cells #[.int .u8 0, .int .u64 0, .string ⟨#[]⟩, .string ⟨#[]⟩, .string ⟨#[]⟩, .string ⟨#[]⟩, .string ⟨#[]⟩, .string ⟨#[]⟩] 31)) from g_alloc (g_alloc (g_alloc g_refl _) _) _)
  clear hl
  go_enter Try.func15, Try.ntmps15
  go_wp2_with fail
  refine (subject_n _).mono ?_
  rintro e w1 ⟨rfl, hb⟩
  obtain ⟨c0_0, f0_0, c0_1, f0_1, c0_2, f0_2, c0_3, f0_3, c0_4, f0_4, c0_5, f0_5, c0_6, f0_6, c0_7, f0_7, c1_0, f1_0, c1_1, f1_1, c1_2, f1_2, c1_3, f1_3, c1_4, f1_4, c1_5, f1_5, c2_0, f2_0, c2_1, f2_1, c2_2, f2_2, c2_3, f2_3, c2_4, f2_4, c2_5, f2_5, c2_6, f2_6, c2_7, f2_7, hs⟩ := HZ.out.below hb
  have HW := hid (g_trans HB.out hb)
  have hs1 : w.heap.size + 1 < w1.heap.size := by omega
  have hs0 : w.heap.size < w1.heap.size := by omega
  clear hb
  generalize hq : w.heap.size = q at *
  have HQ := hid hq
  clear hq
  go_wp2
  refine bodyPost_ret (v := .agg #[.int .u8 0, .int .u64 0, .string ⟨#[]⟩, .string ⟨#[]⟩, .string ⟨#[]⟩, .string ⟨#[]⟩, .string ⟨#[]⟩, .string ⟨#[]⟩]) ?_ rfl ?_
  · simp [results, Try.results15, go_sem, *]
  · have hq := HQ.out
    subst hq
    exact ⟨rfl, by repeat (first | with_reducible exact HW.out | with_reducible refine g_alloc ?_ _ | with_reducible refine n_set ?_ (by omega))⟩

set_option maxRecDepth 20000 in
set_option maxHeartbeats 1000000 in
theorem gnil_8 (l : Int) (hl : -9223372036854775808 ≤ l ∧ l ≤ 9223372036854775807) (w : World) : Calls Try.prog 15 #[.pointer none, .int .u8 8, .int .i64 l] w (NPost w (.agg #[.int .u8 0, .int .u64 0, .string ⟨#[]⟩, .string ⟨#[]⟩, .string ⟨#[]⟩, .string ⟨#[]⟩, .string ⟨#[]⟩, .string ⟨#[]⟩])) := by
  have HL := hid hl
  have HZ := hid (zg0 w)
  have HB := hid (show Below w.heap.size w (((w.alloc (.cells #[.int .u8 0, .int .u64 0, .string ⟨#[]⟩, .string ⟨#[]⟩, .string ⟨#[]⟩, .string ⟨#[]⟩, .string ⟨#[]⟩, .string ⟨#[]⟩] 31)).alloc (.cells #[.string ⟨#[]⟩, .string ⟨#[]⟩, .string ⟨#[]⟩, .string ⟨#[]⟩, .string ⟨#[]⟩, .string ⟨#[]⟩] 75)).alloc (.cells #[.int .u8 0, .int .u64 0, .string ⟨#[]⟩, .string ⟨#[]⟩, .string ⟨#[]⟩, .string ⟨#[]⟩, .string ⟨#[]⟩, .string ⟨#[]⟩] 31)) from g_alloc (g_alloc (g_alloc g_refl _) _) _)
  clear hl
  go_enter Try.func15, Try.ntmps15
  go_wp2_with fail
  refine (tuple_n _).mono ?_
  rintro e w1 ⟨rfl, hb⟩
  obtain ⟨c0_0, f0_0, c0_1, f0_1, c0_2, f0_2, c0_3, f0_3, c0_4, f0_4, c0_5, f0_5, c0_6, f0_6, c0_7, f0_7, c1_0, f1_0, c1_1, f1_1, c1_2, f1_2, c1_3, f1_3, c1_4, f1_4, c1_5, f1_5, c2_0, f2_0, c2_1, f2_1, c2_2, f2_2, c2_3, f2_3, c2_4, f2_4, c2_5, f2_5, c2_6, f2_6, c2_7, f2_7, hs⟩ := HZ.out.below hb
  have HW := hid (g_trans HB.out hb)
  have hs1 : w.heap.size + 1 < w1.heap.size := by omega
  have hs0 : w.heap.size < w1.heap.size := by omega
  clear hb
  generalize hq : w.heap.size = q at *
  have HQ := hid hq
  clear hq
  go_wp2
  refine bodyPost_ret (v := .agg #[.int .u8 0, .int .u64 0, .string ⟨#[]⟩, .string ⟨#[]⟩, .string ⟨#[]⟩, .string ⟨#[]⟩, .string ⟨#[]⟩, .string ⟨#[]⟩]) ?_ rfl ?_
  · simp [results, Try.results15, go_sem, *]
  · have hq := HQ.out
    subst hq
    exact ⟨rfl, by repeat (first | with_reducible exact HW.out | with_reducible refine g_alloc ?_ _ | with_reducible refine n_set ?_ (by omega))⟩

set_option maxRecDepth 20000 in
set_option maxHeartbeats 1000000 in
theorem gnil_9 (l : Int) (hl : -9223372036854775808 ≤ l ∧ l ≤ 9223372036854775807) (w : World) : Calls Try.prog 15 #[.pointer none, .int .u8 9, .int .i64 l] w (NPost w (.agg #[.int .u8 0, .int .u64 0, .string ⟨#[]⟩, .string ⟨#[]⟩, .string ⟨#[]⟩, .string ⟨#[]⟩, .string ⟨#[]⟩, .string ⟨#[]⟩])) := by
  have HL := hid hl
  have HZ := hid (zg0 w)
  have HB := hid (show Below w.heap.size w (((w.alloc (.cells #[.int .u8 0, .int .u64 0, .string ⟨#[]⟩, .string ⟨#[]⟩, .string ⟨#[]⟩, .string ⟨#[]⟩, .string ⟨#[]⟩, .string ⟨#[]⟩] 31)).alloc (.cells #[.string ⟨#[]⟩, .string ⟨#[]⟩, .string ⟨#[]⟩, .string ⟨#[]⟩, .string ⟨#[]⟩, .string ⟨#[]⟩] 75)).alloc (.cells #[.int .u8 0, .int .u64 0, .string ⟨#[]⟩, .string ⟨#[]⟩, .string ⟨#[]⟩, .string ⟨#[]⟩, .string ⟨#[]⟩, .string ⟨#[]⟩] 31)) from g_alloc (g_alloc (g_alloc g_refl _) _) _)
  clear hl
  go_enter Try.func15, Try.ntmps15
  go_wp2_with fail
  refine (change_n _).mono ?_
  rintro e w1 ⟨rfl, hb⟩
  obtain ⟨c0_0, f0_0, c0_1, f0_1, c0_2, f0_2, c0_3, f0_3, c0_4, f0_4, c0_5, f0_5, c0_6, f0_6, c0_7, f0_7, c1_0, f1_0, c1_1, f1_1, c1_2, f1_2, c1_3, f1_3, c1_4, f1_4, c1_5, f1_5, c2_0, f2_0, c2_1, f2_1, c2_2, f2_2, c2_3, f2_3, c2_4, f2_4, c2_5, f2_5, c2_6, f2_6, c2_7, f2_7, hs⟩ := HZ.out.below hb
  have HW := hid (g_trans HB.out hb)
  have hs1 : w.heap.size + 1 < w1.heap.size := by omega
  have hs0 : w.heap.size < w1.heap.size := by omega
  clear hb
  generalize hq : w.heap.size = q at *
  have HQ := hid hq
  clear hq
  go_wp2
  refine bodyPost_ret (v := .agg #[.int .u8 0, .int .u64 0, .string ⟨#[]⟩, .string ⟨#[]⟩, .string ⟨#[]⟩, .string ⟨#[]⟩, .string ⟨#[]⟩, .string ⟨#[]⟩]) ?_ rfl ?_
  · simp [results, Try.results15, go_sem, *]
  · have hq := HQ.out
    subst hq
    exact ⟨rfl, by repeat (first | with_reducible exact HW.out | with_reducible refine g_alloc ?_ _ | with_reducible refine n_set ?_ (by omega))⟩

set_option maxRecDepth 20000 in
set_option maxHeartbeats 1000000 in
theorem gnil_10 (l : Int) (hl : -9223372036854775808 ≤ l ∧ l ≤ 9223372036854775807) (w : World) : Calls Try.prog 15 #[.pointer none, .int .u8 10, .int .i64 l] w (NPost w (.agg #[.int .u8 0, .int .u64 0, .string ⟨#[]⟩, .string ⟨#[]⟩, .string ⟨#[]⟩, .string ⟨#[]⟩, .string ⟨#[]⟩, .string ⟨#[]⟩])) := by
  have HL := hid hl
  have HZ := hid (zg0 w)
  have HB := hid (show Below w.heap.size w (((w.alloc (.cells #[.int .u8 0, .int .u64 0, .string ⟨#[]⟩, .string ⟨#[]⟩, .string ⟨#[]⟩, .string ⟨#[]⟩, .string ⟨#[]⟩, .string ⟨#[]⟩] 31)).alloc (.cells #[.string ⟨#[]⟩, .string ⟨#[]⟩, .string ⟨#[]⟩, .string ⟨#[]⟩, .string ⟨#[]⟩, .string ⟨#[]⟩] 75)).alloc (.cells #[.int .u8 0, .int .u64 0, .string ⟨#[]⟩, .string ⟨#[]⟩, .string ⟨#[]⟩, .string ⟨#[]⟩, .string ⟨#[]⟩, .string ⟨#[]⟩] 31)) from g_alloc (g_alloc (g_alloc g_refl _) _) _)
  clear hl
  go_enter Try.func15, Try.ntmps15
  go_wp2_with fail
  refine (must_n _).mono ?_
  rintro e w1 ⟨rfl, hb⟩
  obtain ⟨c0_0, f0_0, c0_1, f0_1, c0_2, f0_2, c0_3, f0_3, c0_4, f0_4, c0_5, f0_5, c0_6, f0_6, c0_7, f0_7, c1_0, f1_0, c1_1, f1_1, c1_2, f1_2, c1_3, f1_3, c1_4, f1_4, c1_5, f1_5, c2_0, f2_0, c2_1, f2_1, c2_2, f2_2, c2_3, f2_3, c2_4, f2_4, c2_5, f2_5, c2_6, f2_6, c2_7, f2_7, hs⟩ := HZ.out.below hb
  have HW := hid (g_trans HB.out hb)
  have hs1 : w.heap.size + 1 < w1.heap.size := by omega
  have hs0 : w.heap.size < w1.heap.size := by omega
  clear hb
  generalize hq : w.heap.size = q at *
  have HQ := hid hq
  clear hq
  go_wp2
  refine bodyPost_ret (v := .agg #[.int .u8 0, .int .u64 0, .string ⟨#[]⟩, .string ⟨#[]⟩, .string ⟨#[]⟩, .string ⟨#[]⟩, .string ⟨#[]⟩, .string ⟨#[]⟩]) ?_ rfl ?_
  · simp [results, Try.results15, go_sem, *]
  · have hq := HQ.out
    subst hq
    exact ⟨rfl, by repeat (first | with_reducible exact HW.out | with_reducible refine g_alloc ?_ _ | with_reducible refine n_set ?_ (by omega))⟩

set_option maxRecDepth 20000 in
set_option maxHeartbeats 1000000 in
theorem gnil_11 (l : Int) (hl : -9223372036854775808 ≤ l ∧ l ≤ 9223372036854775807) (w : World) : Calls Try.prog 15 #[.pointer none, .int .u8 11, .int .i64 l] w (NPost w (.agg #[.int .u8 0, .int .u64 0, .string ⟨#[]⟩, .string ⟨#[]⟩, .string ⟨#[]⟩, .string ⟨#[]⟩, .string ⟨#[]⟩, .string ⟨#[]⟩])) := by
  have HL := hid hl
  have HZ := hid (zg0 w)
  have HB := hid (show Below w.heap.size w (((w.alloc (.cells #[.int .u8 0, .int .u64 0, .string ⟨#[]⟩, .string ⟨#[]⟩, .string ⟨#[]⟩, .string ⟨#[]⟩, .string ⟨#[]⟩, .string ⟨#[]⟩] 31)).alloc (.cells #[.string ⟨#[]⟩, .string ⟨#[]⟩, .string ⟨#[]⟩, .string ⟨#[]⟩, .string ⟨#[]⟩, .string ⟨#[]⟩] 75)).alloc (.cells #[.int .u8 0, .int .u64 0, .string ⟨#[]⟩, .string ⟨#[]⟩, .string ⟨#[]⟩, .string ⟨#[]⟩, .string ⟨#[]⟩, .string ⟨#[]⟩] 31)) from g_alloc (g_alloc (g_alloc g_refl _) _) _)
  clear hl
  go_enter Try.func15, Try.ntmps15
  go_wp2_with fail
  refine (query_n _).mono ?_
  rintro e w1 ⟨rfl, hb⟩
  obtain ⟨c0_0, f0_0, c0_1, f0_1, c0_2, f0_2, c0_3, f0_3, c0_4, f0_4, c0_5, f0_5, c0_6, f0_6, c0_7, f0_7, c1_0, f1_0, c1_1, f1_1, c1_2, f1_2, c1_3, f1_3, c1_4, f1_4, c1_5, f1_5, c2_0, f2_0, c2_1, f2_1, c2_2, f2_2, c2_3, f2_3, c2_4, f2_4, c2_5, f2_5, c2_6, f2_6, c2_7, f2_7, hs⟩ := HZ.out.below hb
  have HW := hid (g_trans HB.out hb)
  have hs1 : w.heap.size + 1 < w1.heap.size := by omega
  have hs0 : w.heap.size < w1.heap.size := by omega
  clear hb
  generalize hq : w.heap.size = q at *
  have HQ := hid hq
  clear hq
  go_wp2
  refine bodyPost_ret (v := .agg #[.int .u8 0, .int .u64 0, .string ⟨#[]⟩, .string ⟨#[]⟩, .string ⟨#[]⟩, .string ⟨#[]⟩, .string ⟨#[]⟩, .string ⟨#[]⟩]) ?_ rfl ?_
  · simp [results, Try.results15, go_sem, *]
  · have hq := HQ.out
    subst hq
    exact ⟨rfl, by repeat (first | with_reducible exact HW.out | with_reducible refine g_alloc ?_ _ | with_reducible refine n_set ?_ (by omega))⟩

set_option maxRecDepth 20000 in
set_option maxHeartbeats 1000000 in
theorem gnil_12 (l : Int) (hl : -9223372036854775808 ≤ l ∧ l ≤ 9223372036854775807) (w : World) : Calls Try.prog 15 #[.pointer none, .int .u8 12, .int .i64 l] w (NPost w (.agg #[.int .u8 0, .int .u64 0, .string ⟨#[]⟩, .string ⟨#[]⟩, .string ⟨#[]⟩, .string ⟨#[]⟩, .string ⟨#[]⟩, .string ⟨#[]⟩])) := by
  have HL := hid hl
  have HZ := hid (zg0 w)
  have HB := hid (show Below w.heap.size w (((w.alloc (.cells #[.int .u8 0, .int .u64 0, .string ⟨#[]⟩, .string ⟨#[]⟩, .string ⟨#[]⟩, .string ⟨#[]⟩, .string ⟨#[]⟩, .string ⟨#[]⟩] 31)).alloc (.cells #[.string ⟨#[]⟩, .string ⟨#[]⟩, .string ⟨#[]⟩, .string ⟨#[]⟩, .string ⟨#[]⟩, .string ⟨#[]⟩] 75)).alloc (.cells #[.int .u8 0, .int .u64 0, .string ⟨#[]⟩, .string ⟨#[]⟩, .string ⟨#[]⟩, .string ⟨#[]⟩, .string ⟨#[]⟩, .string ⟨#[]⟩] 31)) from g_alloc (g_alloc (g_alloc g_refl _) _) _)
  clear hl
  go_enter Try.func15, Try.ntmps15
  go_wp2_with fail
  refine (len_n _ HL.out _).mono ?_
  rintro e w1 ⟨rfl, hb⟩
  obtain ⟨c0_0, f0_0, c0_1, f0_1, c0_2, f0_2, c0_3, f0_3, c0_4, f0_4, c0_5, f0_5, c0_6, f0_6, c0_7, f0_7, c1_0, f1_0, c1_1, f1_1, c1_2, f1_2, c1_3, f1_3, c1_4, f1_4, c1_5, f1_5, c2_0, f2_0, c2_1, f2_1, c2_2, f2_2, c2_3, f2_3, c2_4, f2_4, c2_5, f2_5, c2_6, f2_6, c2_7, f2_7, hs⟩ := HZ.out.below hb
  have HW := hid (g_trans HB.out hb)
  have hs1 : w.heap.size + 1 < w1.heap.size := by omega
  have hs0 : w.heap.size < w1.heap.size := by omega
  clear hb
  generalize hq : w.heap.size = q at *
  have HQ := hid hq
  clear hq
  go_wp2
  refine bodyPost_ret (v := .agg #[.int .u8 0, .int .u64 0, .string ⟨#[]⟩, .string ⟨#[]⟩, .string ⟨#[]⟩, .string ⟨#[]⟩, .string ⟨#[]⟩, .string ⟨#[]⟩]) ?_ rfl ?_
  · simp [results, Try.results15, go_sem, *]
  · have hq := HQ.out
    subst hq
    exact ⟨rfl, by repeat (first | with_reducible exact HW.out | with_reducible refine g_alloc ?_ _ | with_reducible refine n_set ?_ (by omega))⟩
end Go.Proofs.Ytohnhjmiblgkkaa
