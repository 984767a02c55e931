/-
  THE CONTRACTS of the methods of a nil Reader: zero values.
-/
import Derived.Test.YtohnhjmiblgkkaaCLives
namespace Go.Proofs.Ytohnhjmiblgkkaa
open Go.RowKit

def NPost (w : World) (v : Value) (e : Ending) (w' : World) : Prop := e = .returned v ∧ Below w.heap.size w w'
theorem n_set {a b : World} {p o : Nat} {v : Value} (h : Below a.heap.size a b) (hp : a.heap.size ≤ p) : Below a.heap.size a (b.setCell ⟨p, o, none⟩ v) := g_set h hp v
theorem failed_n (w : World) : Calls Try.prog 21 #[.pointer none] w fun e w' => e = .returned (.bool true) ∧ w' = w := by
  go_enter Try.func21, Try.ntmps21
  go_wp2
  go_ret
  exact ⟨rfl, rfl⟩
theorem left_n (w : World) : Calls Try.prog 17 #[.pointer none] w fun e w' => e = .returned (.int .i64 0) ∧ w' = w := by
  go_enter Try.func17, Try.ntmps17
  go_wp2
  go_ret
  exact ⟨rfl, rfl⟩
theorem at_n (w : World) : Calls Try.prog 18 #[.pointer none] w fun e w' => e = .returned (.int .i64 0) ∧ w' = w := by
  go_enter Try.func18, Try.ntmps18
  go_wp2
  go_ret
  exact ⟨rfl, rfl⟩
theorem fault_n (w : World) : Calls Try.prog 20 #[.pointer none] w fun e w' => e = .returned (.tuple #[.int .i64 0, .int .i64 2]) ∧ w' = w := by
  go_enter Try.func20, Try.ntmps20
  go_wp2
  refine bodyPost_ret (v := .tuple #[.int .i64 0, .int .i64 2]) ?_ rfl ?_
  · simp [results, Try.results20, go_sem]
  · exact ⟨rfl, rfl⟩
theorem end_n (w : World) : Calls Try.prog 16 #[.pointer none] w fun e w' => e = .returned (.tuple #[.int .i64 0, .int .i64 2]) ∧ w' = w := by
  go_enter Try.func16, Try.ntmps16
  go_wp2_with fail
  refine (failed_n w).mono ?_
  rintro e w1 ⟨rfl, rfl⟩
  go_wp2_with fail
  refine (fault_n w1).mono ?_
  rintro e w2 ⟨rfl, rfl⟩
  go_wp2
  refine bodyPost_ret (v := .tuple #[.int .i64 0, .int .i64 2]) ?_ rfl ?_
  · simp [results, Try.results16, go_sem]
  · exact ⟨rfl, rfl⟩
theorem wlen_n (w : World) : Calls Try.prog 13 #[.pointer none] w fun e w' => e = .returned (.int .i64 0) ∧ w' = w := by
  go_enter Try.func13, Try.ntmps13
  go_wp2
  go_ret
  exact ⟨rfl, rfl⟩
theorem wbytes_n (w : World) : Calls Try.prog 12 #[.pointer none] w fun e w' => e = .returned (.slice none 0 0) ∧ w' = w := by
  go_enter Try.func12, Try.ntmps12
  go_wp2
  go_ret
  exact ⟨rfl, rfl⟩

theorem nread_u64 (fn : Nat) (bs cs : Array Value) (w : World) : Calls Try.prog 58 #[.pointer none, .func (.func fn) bs cs] w (NPost w (.int .u64 0)) := by
  go_enter Try.func58, Try.ntmps58
  go_wp2_with fail
  refine (failed_n w).mono ?_
  rintro e w1 ⟨rfl, rfl⟩
  go_wp2
  go_ret
  exact ⟨rfl, g_refl⟩

theorem nread_str (fn : Nat) (bs cs : Array Value) (w : World) : Calls Try.prog 64 #[.pointer none, .func (.func fn) bs cs] w (NPost w (.string ⟨#[]⟩)) := by
  go_enter Try.func64, Try.ntmps64
  go_wp2_with fail
  refine (failed_n w).mono ?_
  rintro e w1 ⟨rfl, rfl⟩
  go_wp2
  go_ret
  exact ⟨rfl, g_refl⟩

set_option maxRecDepth 20000 in
theorem nread_obj (fn : Nat) (bs cs : Array Value) (w : World) : Calls Try.prog 60 #[.pointer none, .func (.func fn) bs cs] w (NPost w (.agg #[.string ⟨#[]⟩, .string ⟨#[]⟩])) := by
  go_enter Try.func60, Try.ntmps60
  go_wp2_with fail
  refine (failed_n _).mono ?_
  rintro e w1 ⟨rfl, rfl⟩
  go_wp2
  refine bodyPost_ret (v := .agg #[.string ⟨#[]⟩, .string ⟨#[]⟩]) ?_ rfl ?_
  · simp [results, Try.results60, go_sem]
  · exact ⟨rfl, by repeat (first | with_reducible exact g_refl | with_reducible refine g_alloc ?_ _ | with_reducible refine n_set ?_ (Nat.le_refl _) | with_reducible refine n_set ?_ (Nat.le_add_right _ _))⟩

set_option maxRecDepth 20000 in
theorem nread_goal (fn : Nat) (bs cs : Array Value) (w : World) : Calls Try.prog 72 #[.pointer none, .func (.func fn) bs cs] w (NPost w (.agg #[.string ⟨#[]⟩, .string ⟨#[]⟩, .string ⟨#[]⟩])) := by
  go_enter Try.func72, Try.ntmps72
  go_wp2_with fail
  refine (failed_n _).mono ?_
  rintro e w1 ⟨rfl, rfl⟩
  go_wp2
  refine bodyPost_ret (v := .agg #[.string ⟨#[]⟩, .string ⟨#[]⟩, .string ⟨#[]⟩]) ?_ rfl ?_
  · simp [results, Try.results72, go_sem]
  · exact ⟨rfl, by repeat (first | with_reducible exact g_refl | with_reducible refine g_alloc ?_ _ | with_reducible refine n_set ?_ (Nat.le_refl _) | with_reducible refine n_set ?_ (Nat.le_add_right _ _))⟩

set_option maxRecDepth 20000 in
theorem nread_tup (fn : Nat) (bs cs : Array Value) (w : World) : Calls Try.prog 74 #[.pointer none, .func (.func fn) bs cs] w (NPost w (.agg #[.string ⟨#[]⟩, .string ⟨#[]⟩, .string ⟨#[]⟩, .string ⟨#[]⟩, .string ⟨#[]⟩, .string ⟨#[]⟩])) := by
  go_enter Try.func74, Try.ntmps74
  go_wp2_with fail
  refine (failed_n _).mono ?_
  rintro e w1 ⟨rfl, rfl⟩
  go_wp2
  refine bodyPost_ret (v := .agg #[.string ⟨#[]⟩, .string ⟨#[]⟩, .string ⟨#[]⟩, .string ⟨#[]⟩, .string ⟨#[]⟩, .string ⟨#[]⟩]) ?_ rfl ?_
  · simp [results, Try.results74, go_sem]
  · exact ⟨rfl, by repeat (first | with_reducible exact g_refl | with_reducible refine g_alloc ?_ _ | with_reducible refine n_set ?_ (Nat.le_refl _) | with_reducible refine n_set ?_ (Nat.le_add_right _ _))⟩

set_option maxRecDepth 20000 in
theorem nread_chg (fn : Nat) (bs cs : Array Value) (w : World) : Calls Try.prog 76 #[.pointer none, .func (.func fn) bs cs] w (NPost w (.agg #[.string ⟨#[]⟩, .string ⟨#[]⟩, .string ⟨#[]⟩, .string ⟨#[]⟩, .string ⟨#[]⟩, .string ⟨#[]⟩, .bool false])) := by
  go_enter Try.func76, Try.ntmps76
  go_wp2_with fail
  refine (failed_n _).mono ?_
  rintro e w1 ⟨rfl, rfl⟩
  go_wp2
  refine bodyPost_ret (v := .agg #[.string ⟨#[]⟩, .string ⟨#[]⟩, .string ⟨#[]⟩, .string ⟨#[]⟩, .string ⟨#[]⟩, .string ⟨#[]⟩, .bool false]) ?_ rfl ?_
  · simp [results, Try.results76, go_sem]
  · exact ⟨rfl, by repeat (first | with_reducible exact g_refl | with_reducible refine g_alloc ?_ _ | with_reducible refine n_set ?_ (Nat.le_refl _) | with_reducible refine n_set ?_ (Nat.le_add_right _ _))⟩

set_option maxRecDepth 20000 in
theorem nread_must (fn : Nat) (bs cs : Array Value) (w : World) : Calls Try.prog 78 #[.pointer none, .func (.func fn) bs cs] w (NPost w (.agg #[.string ⟨#[]⟩, .string ⟨#[]⟩, .string ⟨#[]⟩, .string ⟨#[]⟩, .string ⟨#[]⟩, .string ⟨#[]⟩, .bool false])) := by
  go_enter Try.func78, Try.ntmps78
  go_wp2_with fail
  refine (failed_n _).mono ?_
  rintro e w1 ⟨rfl, rfl⟩
  go_wp2
  refine bodyPost_ret (v := .agg #[.string ⟨#[]⟩, .string ⟨#[]⟩, .string ⟨#[]⟩, .string ⟨#[]⟩, .string ⟨#[]⟩, .string ⟨#[]⟩, .bool false]) ?_ rfl ?_
  · simp [results, Try.results78, go_sem]
  · exact ⟨rfl, by repeat (first | with_reducible exact g_refl | with_reducible refine g_alloc ?_ _ | with_reducible refine n_set ?_ (Nat.le_refl _) | with_reducible refine n_set ?_ (Nat.le_add_right _ _))⟩

set_option maxRecDepth 20000 in
theorem nread_qry (fn : Nat) (bs cs : Array Value) (w : World) : Calls Try.prog 80 #[.pointer none, .func (.func fn) bs cs] w (NPost w (.agg #[.int .u8 0, .string ⟨#[]⟩, .string ⟨#[]⟩, .string ⟨#[]⟩, .string ⟨#[]⟩, .string ⟨#[]⟩])) := by
  go_enter Try.func80, Try.ntmps80
  go_wp2_with fail
  refine (failed_n _).mono ?_
  rintro e w1 ⟨rfl, rfl⟩
  go_wp2
  refine bodyPost_ret (v := .agg #[.int .u8 0, .string ⟨#[]⟩, .string ⟨#[]⟩, .string ⟨#[]⟩, .string ⟨#[]⟩, .string ⟨#[]⟩]) ?_ rfl ?_
  · simp [results, Try.results80, go_sem]
  · exact ⟨rfl, by repeat (first | with_reducible exact g_refl | with_reducible refine g_alloc ?_ _ | with_reducible refine n_set ?_ (Nat.le_refl _) | with_reducible refine n_set ?_ (Nat.le_add_right _ _))⟩

theorem number_n  (w : World) : Calls Try.prog 22 #[.pointer none] w (NPost w (.int .u64 0)) := by
  go_enter Try.func22, Try.ntmps22
  go_wp2_with fail
  refine (nread_u64 _ _ _ _).mono ?_
  rintro e w1 ⟨rfl, hb⟩
  go_wp2
  go_ret
  exact ⟨rfl, hb⟩

theorem int_n  (w : World) : Calls Try.prog 45 #[.pointer none] w (NPost w (.int .i64 0)) := by
  go_enter Try.func45, Try.ntmps45
  go_wp2_with fail
  refine (number_n _).mono ?_
  rintro e w1 ⟨rfl, hb⟩
  go_wp2
  go_ret
  exact ⟨rfl, hb⟩

theorem upto_n (g : Nat) (x : Int) (w : World) : Calls Try.prog 67 #[.pointer none, .int .u64 g, .int .i64 x] w (NPost w (.int .u64 0)) := by
  go_enter Try.func67, Try.ntmps67
  go_wp2_with fail
  refine (nread_u64 _ _ _ _).mono ?_
  rintro e w1 ⟨rfl, hb⟩
  go_wp2
  go_ret
  exact ⟨rfl, g_trans (g_alloc (g_alloc (g_alloc g_refl _) _) _) hb⟩

theorem small_n  (w : World) : Calls Try.prog 46 #[.pointer none] w (NPost w (.int .u8 0)) := by
  go_enter Try.func46, Try.ntmps46
  go_wp2_with fail
  refine (upto_n 255 5 _).mono ?_
  rintro e w1 ⟨rfl, hb⟩
  go_wp2
  go_ret
  exact ⟨rfl, hb⟩

theorem bool_n  (w : World) : Calls Try.prog 30 #[.pointer none] w (NPost w (.bool false)) := by
  go_enter Try.func30, Try.ntmps30
  go_wp2_with fail
  refine (upto_n 1 5 _).mono ?_
  rintro e w1 ⟨rfl, hb⟩
  go_wp2
  go_ret
  exact ⟨rfl, hb⟩

theorem len_n (l : Int) (hl : -9223372036854775808 ≤ l ∧ l ≤ 9223372036854775807) (w : World) : Calls Try.prog 53 #[.pointer none, .int .i64 l] w (NPost w (.int .i64 0)) := by
  have HL := hid hl
  clear hl
  go_enter Try.func53, Try.ntmps53
  by_cases h0 : 0 ≤ l
  · obtain ⟨m, rfl⟩ := Int.eq_ofNat_of_zero_le h0
    have hm : (0 : Int) ≤ (m : Int) := h0
    have hw : IntKind.u64.wrap (m : Int) = (m : Int) := wrap_u64 (by have := HL.out.2; omega)
    clear h0
    go_wp2_with fail
    try rw [hw]
    refine (upto_n m 3 _).mono ?_
    rintro e w1 ⟨rfl, hb⟩
    go_wp2
    go_ret
    exact ⟨rfl, hb⟩
  · have hm : ¬ (0 : Int) ≤ l := h0
    have hm2 : l < 0 := by omega
    have hw : IntKind.u64.wrap (0 : Int) = ((0 : Nat) : Int) := rfl
    clear h0
    go_wp2_with fail
    try rw [hw]
    refine (upto_n 0 3 _).mono ?_
    rintro e w1 ⟨rfl, hb⟩
    go_wp2
    go_ret
    exact ⟨rfl, hb⟩

theorem text_n (l : Int) (w : World) : Calls Try.prog 27 #[.pointer none, .int .i64 l] w (NPost w (.string ⟨#[]⟩)) := by
  go_enter Try.func27, Try.ntmps27
  go_wp2_with fail
  refine (nread_str _ _ _ _).mono ?_
  rintro e w1 ⟨rfl, hb⟩
  go_wp2
  go_ret
  exact ⟨rfl, g_trans (g_alloc (g_alloc g_refl _) _) hb⟩

set_option maxRecDepth 20000 in
theorem object_n (w : World) : Calls Try.prog 26 #[.pointer none] w (NPost w (.agg #[.string ⟨#[]⟩, .string ⟨#[]⟩])) := by
  have HB := hid (show Below w.heap.size w ((w.alloc (.cells #[.pointer none] 36)).alloc (.cells #[.string ⟨#[]⟩, .string ⟨#[]⟩] 63)) from g_alloc (g_alloc g_refl _) _)
  go_enter Try.func26, Try.ntmps26
  go_wp2_with fail
  refine (nread_obj _ _ _ ((w.alloc (.cells #[.pointer none] 36)).alloc (.cells #[.string ⟨#[]⟩, .string ⟨#[]⟩] 63))).mono ?_
  rintro e w1 ⟨rfl, hb⟩
  have k0 : w1.cell? ⟨w.heap.size + 1, 0, none⟩ = some (.string ⟨#[]⟩) := (hb.cell (p := ⟨w.heap.size + 1, 0, none⟩) (by simp)).trans (by go_simp)
  have f0 : w1.frozen? ⟨w.heap.size + 1, 0, none⟩ = false := (hb.frozen (p := ⟨w.heap.size + 1, 0, none⟩) (by simp)).trans (by go_simp)
  have k1 : w1.cell? ⟨w.heap.size + 1, 1, none⟩ = some (.string ⟨#[]⟩) := (hb.cell (p := ⟨w.heap.size + 1, 1, none⟩) (by simp)).trans (by go_simp)
  have f1 : w1.frozen? ⟨w.heap.size + 1, 1, none⟩ = false := (hb.frozen (p := ⟨w.heap.size + 1, 1, none⟩) (by simp)).trans (by go_simp)
  have HW := hid (g_trans HB.out hb)
  clear hb
  go_wp2
  refine bodyPost_ret (v := .agg #[.string ⟨#[]⟩, .string ⟨#[]⟩]) ?_ rfl ?_
  · simp [results, Try.results26, go_sem, *]
  · exact ⟨rfl, by repeat (first | with_reducible exact HW.out | with_reducible refine n_set ?_ (Nat.le_add_right _ _))⟩

set_option maxRecDepth 20000 in
theorem goal_n (w : World) : Calls Try.prog 47 #[.pointer none] w (NPost w (.agg #[.string ⟨#[]⟩, .string ⟨#[]⟩, .string ⟨#[]⟩])) := by
  have HB := hid (show Below w.heap.size w ((w.alloc (.cells #[.pointer none] 36)).alloc (.cells #[.string ⟨#[]⟩, .string ⟨#[]⟩, .string ⟨#[]⟩] 72)) from g_alloc (g_alloc g_refl _) _)
  go_enter Try.func47, Try.ntmps47
  go_wp2_with fail
  refine (nread_goal _ _ _ ((w.alloc (.cells #[.pointer none] 36)).alloc (.cells #[.string ⟨#[]⟩, .string ⟨#[]⟩, .string ⟨#[]⟩] 72))).mono ?_
  rintro e w1 ⟨rfl, hb⟩
  have k0 : w1.cell? ⟨w.heap.size + 1, 0, none⟩ = some (.string ⟨#[]⟩) := (hb.cell (p := ⟨w.heap.size + 1, 0, none⟩) (by simp)).trans (by go_simp)
  have f0 : w1.frozen? ⟨w.heap.size + 1, 0, none⟩ = false := (hb.frozen (p := ⟨w.heap.size + 1, 0, none⟩) (by simp)).trans (by go_simp)
  have k1 : w1.cell? ⟨w.heap.size + 1, 1, none⟩ = some (.string ⟨#[]⟩) := (hb.cell (p := ⟨w.heap.size + 1, 1, none⟩) (by simp)).trans (by go_simp)
  have f1 : w1.frozen? ⟨w.heap.size + 1, 1, none⟩ = false := (hb.frozen (p := ⟨w.heap.size + 1, 1, none⟩) (by simp)).trans (by go_simp)
  have k2 : w1.cell? ⟨w.heap.size + 1, 2, none⟩ = some (.string ⟨#[]⟩) := (hb.cell (p := ⟨w.heap.size + 1, 2, none⟩) (by simp)).trans (by go_simp)
  have f2 : w1.frozen? ⟨w.heap.size + 1, 2, none⟩ = false := (hb.frozen (p := ⟨w.heap.size + 1, 2, none⟩) (by simp)).trans (by go_simp)
  have HW := hid (g_trans HB.out hb)
  clear hb
  go_wp2
  refine bodyPost_ret (v := .agg #[.string ⟨#[]⟩, .string ⟨#[]⟩, .string ⟨#[]⟩]) ?_ rfl ?_
  · simp [results, Try.results47, go_sem, *]
  · exact ⟨rfl, by repeat (first | with_reducible exact HW.out | with_reducible refine n_set ?_ (Nat.le_add_right _ _))⟩

set_option maxRecDepth 20000 in
theorem tuple_n (w : World) : Calls Try.prog 49 #[.pointer none] w (NPost w (.agg #[.string ⟨#[]⟩, .string ⟨#[]⟩, .string ⟨#[]⟩, .string ⟨#[]⟩, .string ⟨#[]⟩, .string ⟨#[]⟩])) := by
  have HB := hid (show Below w.heap.size w ((w.alloc (.cells #[.pointer none] 36)).alloc (.cells #[.string ⟨#[]⟩, .string ⟨#[]⟩, .string ⟨#[]⟩, .string ⟨#[]⟩, .string ⟨#[]⟩, .string ⟨#[]⟩] 75)) from g_alloc (g_alloc g_refl _) _)
  go_enter Try.func49, Try.ntmps49
  go_wp2_with fail
  refine (nread_tup _ _ _ ((w.alloc (.cells #[.pointer none] 36)).alloc (.cells #[.string ⟨#[]⟩, .string ⟨#[]⟩, .string ⟨#[]⟩, .string ⟨#[]⟩, .string ⟨#[]⟩, .string ⟨#[]⟩] 75))).mono ?_
  rintro e w1 ⟨rfl, hb⟩
  have k0 : w1.cell? ⟨w.heap.size + 1, 0, none⟩ = some (.string ⟨#[]⟩) := (hb.cell (p := ⟨w.heap.size + 1, 0, none⟩) (by simp)).trans (by go_simp)
  have f0 : w1.frozen? ⟨w.heap.size + 1, 0, none⟩ = false := (hb.frozen (p := ⟨w.heap.size + 1, 0, none⟩) (by simp)).trans (by go_simp)
  have k1 : w1.cell? ⟨w.heap.size + 1, 1, none⟩ = some (.string ⟨#[]⟩) := (hb.cell (p := ⟨w.heap.size + 1, 1, none⟩) (by simp)).trans (by go_simp)
  have f1 : w1.frozen? ⟨w.heap.size + 1, 1, none⟩ = false := (hb.frozen (p := ⟨w.heap.size + 1, 1, none⟩) (by simp)).trans (by go_simp)
  have k2 : w1.cell? ⟨w.heap.size + 1, 2, none⟩ = some (.string ⟨#[]⟩) := (hb.cell (p := ⟨w.heap.size + 1, 2, none⟩) (by simp)).trans (by go_simp)
  have f2 : w1.frozen? ⟨w.heap.size + 1, 2, none⟩ = false := (hb.frozen (p := ⟨w.heap.size + 1, 2, none⟩) (by simp)).trans (by go_simp)
  have k3 : w1.cell? ⟨w.heap.size + 1, 3, none⟩ = some (.string ⟨#[]⟩) := (hb.cell (p := ⟨w.heap.size + 1, 3, none⟩) (by simp)).trans (by go_simp)
  have f3 : w1.frozen? ⟨w.heap.size + 1, 3, none⟩ = false := (hb.frozen (p := ⟨w.heap.size + 1, 3, none⟩) (by simp)).trans (by go_simp)
  have k4 : w1.cell? ⟨w.heap.size + 1, 4, none⟩ = some (.string ⟨#[]⟩) := (hb.cell (p := ⟨w.heap.size + 1, 4, none⟩) (by simp)).trans (by go_simp)
  have f4 : w1.frozen? ⟨w.heap.size + 1, 4, none⟩ = false := (hb.frozen (p := ⟨w.heap.size + 1, 4, none⟩) (by simp)).trans (by go_simp)
  have k5 : w1.cell? ⟨w.heap.size + 1, 5, none⟩ = some (.string ⟨#[]⟩) := (hb.cell (p := ⟨w.heap.size + 1, 5, none⟩) (by simp)).trans (by go_simp)
  have f5 : w1.frozen? ⟨w.heap.size + 1, 5, none⟩ = false := (hb.frozen (p := ⟨w.heap.size + 1, 5, none⟩) (by simp)).trans (by go_simp)
  have HW := hid (g_trans HB.out hb)
  clear hb
  go_wp2
  refine bodyPost_ret (v := .agg #[.string ⟨#[]⟩, .string ⟨#[]⟩, .string ⟨#[]⟩, .string ⟨#[]⟩, .string ⟨#[]⟩, .string ⟨#[]⟩]) ?_ rfl ?_
  · simp [results, Try.results49, go_sem, *]
  · exact ⟨rfl, by repeat (first | with_reducible exact HW.out | with_reducible refine n_set ?_ (Nat.le_add_right _ _))⟩

set_option maxRecDepth 20000 in
theorem change_n (w : World) : Calls Try.prog 50 #[.pointer none] w (NPost w (.agg #[.string ⟨#[]⟩, .string ⟨#[]⟩, .string ⟨#[]⟩, .string ⟨#[]⟩, .string ⟨#[]⟩, .string ⟨#[]⟩, .bool false])) := by
  have HB := hid (show Below w.heap.size w ((w.alloc (.cells #[.pointer none] 36)).alloc (.cells #[.string ⟨#[]⟩, .string ⟨#[]⟩, .string ⟨#[]⟩, .string ⟨#[]⟩, .string ⟨#[]⟩, .string ⟨#[]⟩, .bool false] 84)) from g_alloc (g_alloc g_refl _) _)
  go_enter Try.func50, Try.ntmps50
  go_wp2_with fail
  refine (nread_chg _ _ _ ((w.alloc (.cells #[.pointer none] 36)).alloc (.cells #[.string ⟨#[]⟩, .string ⟨#[]⟩, .string ⟨#[]⟩, .string ⟨#[]⟩, .string ⟨#[]⟩, .string ⟨#[]⟩, .bool false] 84))).mono ?_
  rintro e w1 ⟨rfl, hb⟩
  have k0 : w1.cell? ⟨w.heap.size + 1, 0, none⟩ = some (.string ⟨#[]⟩) := (hb.cell (p := ⟨w.heap.size + 1, 0, none⟩) (by simp)).trans (by go_simp)
  have f0 : w1.frozen? ⟨w.heap.size + 1, 0, none⟩ = false := (hb.frozen (p := ⟨w.heap.size + 1, 0, none⟩) (by simp)).trans (by go_simp)
  have k1 : w1.cell? ⟨w.heap.size + 1, 1, none⟩ = some (.string ⟨#[]⟩) := (hb.cell (p := ⟨w.heap.size + 1, 1, none⟩) (by simp)).trans (by go_simp)
  have f1 : w1.frozen? ⟨w.heap.size + 1, 1, none⟩ = false := (hb.frozen (p := ⟨w.heap.size + 1, 1, none⟩) (by simp)).trans (by go_simp)
  have k2 : w1.cell? ⟨w.heap.size + 1, 2, none⟩ = some (.string ⟨#[]⟩) := (hb.cell (p := ⟨w.heap.size + 1, 2, none⟩) (by simp)).trans (by go_simp)
  have f2 : w1.frozen? ⟨w.heap.size + 1, 2, none⟩ = false := (hb.frozen (p := ⟨w.heap.size + 1, 2, none⟩) (by simp)).trans (by go_simp)
  have k3 : w1.cell? ⟨w.heap.size + 1, 3, none⟩ = some (.string ⟨#[]⟩) := (hb.cell (p := ⟨w.heap.size + 1, 3, none⟩) (by simp)).trans (by go_simp)
  have f3 : w1.frozen? ⟨w.heap.size + 1, 3, none⟩ = false := (hb.frozen (p := ⟨w.heap.size + 1, 3, none⟩) (by simp)).trans (by go_simp)
  have k4 : w1.cell? ⟨w.heap.size + 1, 4, none⟩ = some (.string ⟨#[]⟩) := (hb.cell (p := ⟨w.heap.size + 1, 4, none⟩) (by simp)).trans (by go_simp)
  have f4 : w1.frozen? ⟨w.heap.size + 1, 4, none⟩ = false := (hb.frozen (p := ⟨w.heap.size + 1, 4, none⟩) (by simp)).trans (by go_simp)
  have k5 : w1.cell? ⟨w.heap.size + 1, 5, none⟩ = some (.string ⟨#[]⟩) := (hb.cell (p := ⟨w.heap.size + 1, 5, none⟩) (by simp)).trans (by go_simp)
  have f5 : w1.frozen? ⟨w.heap.size + 1, 5, none⟩ = false := (hb.frozen (p := ⟨w.heap.size + 1, 5, none⟩) (by simp)).trans (by go_simp)
  have k6 : w1.cell? ⟨w.heap.size + 1, 6, none⟩ = some (.bool false) := (hb.cell (p := ⟨w.heap.size + 1, 6, none⟩) (by simp)).trans (by go_simp)
  have f6 : w1.frozen? ⟨w.heap.size + 1, 6, none⟩ = false := (hb.frozen (p := ⟨w.heap.size + 1, 6, none⟩) (by simp)).trans (by go_simp)
  have HW := hid (g_trans HB.out hb)
  clear hb
  go_wp2
  refine bodyPost_ret (v := .agg #[.string ⟨#[]⟩, .string ⟨#[]⟩, .string ⟨#[]⟩, .string ⟨#[]⟩, .string ⟨#[]⟩, .string ⟨#[]⟩, .bool false]) ?_ rfl ?_
  · simp [results, Try.results50, go_sem, *]
  · exact ⟨rfl, by repeat (first | with_reducible exact HW.out | with_reducible refine n_set ?_ (Nat.le_add_right _ _))⟩

set_option maxRecDepth 20000 in
theorem must_n (w : World) : Calls Try.prog 51 #[.pointer none] w (NPost w (.agg #[.string ⟨#[]⟩, .string ⟨#[]⟩, .string ⟨#[]⟩, .string ⟨#[]⟩, .string ⟨#[]⟩, .string ⟨#[]⟩, .bool false])) := by
  have HB := hid (show Below w.heap.size w ((w.alloc (.cells #[.pointer none] 36)).alloc (.cells #[.string ⟨#[]⟩, .string ⟨#[]⟩, .string ⟨#[]⟩, .string ⟨#[]⟩, .string ⟨#[]⟩, .string ⟨#[]⟩, .bool false] 87)) from g_alloc (g_alloc g_refl _) _)
  go_enter Try.func51, Try.ntmps51
  go_wp2_with fail
  refine (nread_must _ _ _ ((w.alloc (.cells #[.pointer none] 36)).alloc (.cells #[.string ⟨#[]⟩, .string ⟨#[]⟩, .string ⟨#[]⟩, .string ⟨#[]⟩, .string ⟨#[]⟩, .string ⟨#[]⟩, .bool false] 87))).mono ?_
  rintro e w1 ⟨rfl, hb⟩
  have k0 : w1.cell? ⟨w.heap.size + 1, 0, none⟩ = some (.string ⟨#[]⟩) := (hb.cell (p := ⟨w.heap.size + 1, 0, none⟩) (by simp)).trans (by go_simp)
  have f0 : w1.frozen? ⟨w.heap.size + 1, 0, none⟩ = false := (hb.frozen (p := ⟨w.heap.size + 1, 0, none⟩) (by simp)).trans (by go_simp)
  have k1 : w1.cell? ⟨w.heap.size + 1, 1, none⟩ = some (.string ⟨#[]⟩) := (hb.cell (p := ⟨w.heap.size + 1, 1, none⟩) (by simp)).trans (by go_simp)
  have f1 : w1.frozen? ⟨w.heap.size + 1, 1, none⟩ = false := (hb.frozen (p := ⟨w.heap.size + 1, 1, none⟩) (by simp)).trans (by go_simp)
  have k2 : w1.cell? ⟨w.heap.size + 1, 2, none⟩ = some (.string ⟨#[]⟩) := (hb.cell (p := ⟨w.heap.size + 1, 2, none⟩) (by simp)).trans (by go_simp)
  have f2 : w1.frozen? ⟨w.heap.size + 1, 2, none⟩ = false := (hb.frozen (p := ⟨w.heap.size + 1, 2, none⟩) (by simp)).trans (by go_simp)
  have k3 : w1.cell? ⟨w.heap.size + 1, 3, none⟩ = some (.string ⟨#[]⟩) := (hb.cell (p := ⟨w.heap.size + 1, 3, none⟩) (by simp)).trans (by go_simp)
  have f3 : w1.frozen? ⟨w.heap.size + 1, 3, none⟩ = false := (hb.frozen (p := ⟨w.heap.size + 1, 3, none⟩) (by simp)).trans (by go_simp)
  have k4 : w1.cell? ⟨w.heap.size + 1, 4, none⟩ = some (.string ⟨#[]⟩) := (hb.cell (p := ⟨w.heap.size + 1, 4, none⟩) (by simp)).trans (by go_simp)
  have f4 : w1.frozen? ⟨w.heap.size + 1, 4, none⟩ = false := (hb.frozen (p := ⟨w.heap.size + 1, 4, none⟩) (by simp)).trans (by go_simp)
  have k5 : w1.cell? ⟨w.heap.size + 1, 5, none⟩ = some (.string ⟨#[]⟩) := (hb.cell (p := ⟨w.heap.size + 1, 5, none⟩) (by simp)).trans (by go_simp)
  have f5 : w1.frozen? ⟨w.heap.size + 1, 5, none⟩ = false := (hb.frozen (p := ⟨w.heap.size + 1, 5, none⟩) (by simp)).trans (by go_simp)
  have k6 : w1.cell? ⟨w.heap.size + 1, 6, none⟩ = some (.bool false) := (hb.cell (p := ⟨w.heap.size + 1, 6, none⟩) (by simp)).trans (by go_simp)
  have f6 : w1.frozen? ⟨w.heap.size + 1, 6, none⟩ = false := (hb.frozen (p := ⟨w.heap.size + 1, 6, none⟩) (by simp)).trans (by go_simp)
  have HW := hid (g_trans HB.out hb)
  clear hb
  go_wp2
  refine bodyPost_ret (v := .agg #[.string ⟨#[]⟩, .string ⟨#[]⟩, .string ⟨#[]⟩, .string ⟨#[]⟩, .string ⟨#[]⟩, .string ⟨#[]⟩, .bool false]) ?_ rfl ?_
  · simp [results, Try.results51, go_sem, *]
  · exact ⟨rfl, by repeat (first | with_reducible exact HW.out | with_reducible refine n_set ?_ (Nat.le_add_right _ _))⟩

set_option maxRecDepth 20000 in
theorem query_n (w : World) : Calls Try.prog 52 #[.pointer none] w (NPost w (.agg #[.int .u8 0, .string ⟨#[]⟩, .string ⟨#[]⟩, .string ⟨#[]⟩, .string ⟨#[]⟩, .string ⟨#[]⟩])) := by
  have HB := hid (show Below w.heap.size w ((w.alloc (.cells #[.pointer none] 36)).alloc (.cells #[.int .u8 0, .string ⟨#[]⟩, .string ⟨#[]⟩, .string ⟨#[]⟩, .string ⟨#[]⟩, .string ⟨#[]⟩] 90)) from g_alloc (g_alloc g_refl _) _)
  go_enter Try.func52, Try.ntmps52
  go_wp2_with fail
  refine (nread_qry _ _ _ ((w.alloc (.cells #[.pointer none] 36)).alloc (.cells #[.int .u8 0, .string ⟨#[]⟩, .string ⟨#[]⟩, .string ⟨#[]⟩, .string ⟨#[]⟩, .string ⟨#[]⟩] 90))).mono ?_
  rintro e w1 ⟨rfl, hb⟩
  have k0 : w1.cell? ⟨w.heap.size + 1, 0, none⟩ = some (.int .u8 0) := (hb.cell (p := ⟨w.heap.size + 1, 0, none⟩) (by simp)).trans (by go_simp)
  have f0 : w1.frozen? ⟨w.heap.size + 1, 0, none⟩ = false := (hb.frozen (p := ⟨w.heap.size + 1, 0, none⟩) (by simp)).trans (by go_simp)
  have k1 : w1.cell? ⟨w.heap.size + 1, 1, none⟩ = some (.string ⟨#[]⟩) := (hb.cell (p := ⟨w.heap.size + 1, 1, none⟩) (by simp)).trans (by go_simp)
  have f1 : w1.frozen? ⟨w.heap.size + 1, 1, none⟩ = false := (hb.frozen (p := ⟨w.heap.size + 1, 1, none⟩) (by simp)).trans (by go_simp)
  have k2 : w1.cell? ⟨w.heap.size + 1, 2, none⟩ = some (.string ⟨#[]⟩) := (hb.cell (p := ⟨w.heap.size + 1, 2, none⟩) (by simp)).trans (by go_simp)
  have f2 : w1.frozen? ⟨w.heap.size + 1, 2, none⟩ = false := (hb.frozen (p := ⟨w.heap.size + 1, 2, none⟩) (by simp)).trans (by go_simp)
  have k3 : w1.cell? ⟨w.heap.size + 1, 3, none⟩ = some (.string ⟨#[]⟩) := (hb.cell (p := ⟨w.heap.size + 1, 3, none⟩) (by simp)).trans (by go_simp)
  have f3 : w1.frozen? ⟨w.heap.size + 1, 3, none⟩ = false := (hb.frozen (p := ⟨w.heap.size + 1, 3, none⟩) (by simp)).trans (by go_simp)
  have k4 : w1.cell? ⟨w.heap.size + 1, 4, none⟩ = some (.string ⟨#[]⟩) := (hb.cell (p := ⟨w.heap.size + 1, 4, none⟩) (by simp)).trans (by go_simp)
  have f4 : w1.frozen? ⟨w.heap.size + 1, 4, none⟩ = false := (hb.frozen (p := ⟨w.heap.size + 1, 4, none⟩) (by simp)).trans (by go_simp)
  have k5 : w1.cell? ⟨w.heap.size + 1, 5, none⟩ = some (.string ⟨#[]⟩) := (hb.cell (p := ⟨w.heap.size + 1, 5, none⟩) (by simp)).trans (by go_simp)
  have f5 : w1.frozen? ⟨w.heap.size + 1, 5, none⟩ = false := (hb.frozen (p := ⟨w.heap.size + 1, 5, none⟩) (by simp)).trans (by go_simp)
  have HW := hid (g_trans HB.out hb)
  clear hb
  go_wp2
  refine bodyPost_ret (v := .agg #[.int .u8 0, .string ⟨#[]⟩, .string ⟨#[]⟩, .string ⟨#[]⟩, .string ⟨#[]⟩, .string ⟨#[]⟩]) ?_ rfl ?_
  · simp [results, Try.results52, go_sem, *]
  · exact ⟨rfl, by repeat (first | with_reducible exact HW.out | with_reducible refine n_set ?_ (Nat.le_add_right _ _))⟩

set_option maxRecDepth 20000 in
theorem subject_n (w : World) : Calls Try.prog 48 #[.pointer none] w (NPost w (.agg #[.string ⟨#[]⟩, .string ⟨#[]⟩, .string ⟨#[]⟩])) := by
  have HB := hid (show Below w.heap.size w (w.alloc (.cells #[.string ⟨#[]⟩, .string ⟨#[]⟩, .string ⟨#[]⟩] 73)) from g_alloc g_refl _)
  go_enter Try.func48, Try.ntmps48
  go_wp2_with fail
  refine (goal_n _).mono ?_
  rintro e w1 ⟨rfl, hb⟩
  have k0 : w1.cell? ⟨w.heap.size, 0, none⟩ = some (.string ⟨#[]⟩) := (hb.cell (p := ⟨w.heap.size, 0, none⟩) (by simp)).trans (by go_simp)
  have f0 : w1.frozen? ⟨w.heap.size, 0, none⟩ = false := (hb.frozen (p := ⟨w.heap.size, 0, none⟩) (by simp)).trans (by go_simp)
  have k1 : w1.cell? ⟨w.heap.size, 1, none⟩ = some (.string ⟨#[]⟩) := (hb.cell (p := ⟨w.heap.size, 1, none⟩) (by simp)).trans (by go_simp)
  have f1 : w1.frozen? ⟨w.heap.size, 1, none⟩ = false := (hb.frozen (p := ⟨w.heap.size, 1, none⟩) (by simp)).trans (by go_simp)
  have k2 : w1.cell? ⟨w.heap.size, 2, none⟩ = some (.string ⟨#[]⟩) := (hb.cell (p := ⟨w.heap.size, 2, none⟩) (by simp)).trans (by go_simp)
  have f2 : w1.frozen? ⟨w.heap.size, 2, none⟩ = false := (hb.frozen (p := ⟨w.heap.size, 2, none⟩) (by simp)).trans (by go_simp)
  have HW := hid (g_trans HB.out hb)
  clear hb
  go_wp2
  refine bodyPost_ret (v := .agg #[.string ⟨#[]⟩, .string ⟨#[]⟩, .string ⟨#[]⟩]) ?_ rfl ?_
  · simp [results, Try.results48, go_sem, *]
  · exact ⟨rfl, by repeat (first | with_reducible exact HW.out | with_reducible refine n_set ?_ (Nat.le_refl _))⟩
end Go.Proofs.Ytohnhjmiblgkkaa
