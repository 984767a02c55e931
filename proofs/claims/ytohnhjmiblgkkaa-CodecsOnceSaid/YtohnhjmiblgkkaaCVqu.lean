/-
  THE CONTRACT of V.query of layer 4's law.
-/
import Derived.Test.YtohnhjmiblgkkaaCVtu
namespace Go.Proofs.Ytohnhjmiblgkkaa
open Go.RowKit

set_option maxRecDepth 20000 in
set_option maxHeartbeats 400000 in
theorem vquery_any (K n : Nat) (hn : n < 18446744073709551616) (a b c d e f : ByteArray) (w : World) :
    Calls Try.prog 40 #[.agg #[.int .u8 (K : Int), .int .u64 (n : Int), .string a, .string b, .string c, .string d, .string e, .string f]] w fun x w' => x = .returned (.agg #[.int .u8 ((n : Int) % 256), .string a, .string b, .string c, .string d, .string e]) ∧ Below w.heap.size w w' := by
  have HB := hid (show Below w.heap.size w ((w.alloc (.cells #[.int .u8 (K : Int), .int .u64 (n : Int), .string a, .string b, .string c, .string d, .string e, .string f] 31)).alloc (.cells #[.int .u8 0, .string ⟨#[]⟩, .string ⟨#[]⟩, .string ⟨#[]⟩, .string ⟨#[]⟩, .string ⟨#[]⟩] 90)) from g_alloc (g_alloc g_refl _) _)
  have hn2 : (n : Int) < 18446744073709551616 := by omega
  clear hn
  go_enter Try.func40, Try.ntmps40
  go_wp2_with fail
  refine (vtuple_any K n a b c d e f _).mono ?_
  rintro x w1 ⟨rfl, hb1⟩
  have k0 : w1.cell? ⟨w.heap.size + 1, 0, none⟩ = some (.int .u8 0) := (hb1.cell (p := ⟨w.heap.size + 1, 0, none⟩) (by simp)).trans (by go_simp)
  have f0 : w1.frozen? ⟨w.heap.size + 1, 0, none⟩ = false := (hb1.frozen (p := ⟨w.heap.size + 1, 0, none⟩) (by simp)).trans (by go_simp)
  have k1 : w1.cell? ⟨w.heap.size + 1, 1, none⟩ = some (.string ⟨#[]⟩) := (hb1.cell (p := ⟨w.heap.size + 1, 1, none⟩) (by simp)).trans (by go_simp)
  have f1 : w1.frozen? ⟨w.heap.size + 1, 1, none⟩ = false := (hb1.frozen (p := ⟨w.heap.size + 1, 1, none⟩) (by simp)).trans (by go_simp)
  have k2 : w1.cell? ⟨w.heap.size + 1, 2, none⟩ = some (.string ⟨#[]⟩) := (hb1.cell (p := ⟨w.heap.size + 1, 2, none⟩) (by simp)).trans (by go_simp)
  have f2 : w1.frozen? ⟨w.heap.size + 1, 2, none⟩ = false := (hb1.frozen (p := ⟨w.heap.size + 1, 2, none⟩) (by simp)).trans (by go_simp)
  have k3 : w1.cell? ⟨w.heap.size + 1, 3, none⟩ = some (.string ⟨#[]⟩) := (hb1.cell (p := ⟨w.heap.size + 1, 3, none⟩) (by simp)).trans (by go_simp)
  have f3 : w1.frozen? ⟨w.heap.size + 1, 3, none⟩ = false := (hb1.frozen (p := ⟨w.heap.size + 1, 3, none⟩) (by simp)).trans (by go_simp)
  have k4 : w1.cell? ⟨w.heap.size + 1, 4, none⟩ = some (.string ⟨#[]⟩) := (hb1.cell (p := ⟨w.heap.size + 1, 4, none⟩) (by simp)).trans (by go_simp)
  have f4 : w1.frozen? ⟨w.heap.size + 1, 4, none⟩ = false := (hb1.frozen (p := ⟨w.heap.size + 1, 4, none⟩) (by simp)).trans (by go_simp)
  have k5 : w1.cell? ⟨w.heap.size + 1, 5, none⟩ = some (.string ⟨#[]⟩) := (hb1.cell (p := ⟨w.heap.size + 1, 5, none⟩) (by simp)).trans (by go_simp)
  have f5 : w1.frozen? ⟨w.heap.size + 1, 5, none⟩ = false := (hb1.frozen (p := ⟨w.heap.size + 1, 5, none⟩) (by simp)).trans (by go_simp)
  have m1 : w1.cell? ⟨w.heap.size, 1, none⟩ = some (.int .u64 (n : Int)) := (hb1.cell (p := ⟨w.heap.size, 1, none⟩) (by simp; omega)).trans (by go_simp)
  have hl1 : w.heap.size + 1 < w1.heap.size := by have := hb1.size; simp at this; omega
  have hl0 : w.heap.size < w1.heap.size := by omega
  have HB1 := hid (g_trans HB.out hb1)
  clear hb1
  go_wp2
  refine bodyPost_ret (v := .agg #[.int .u8 ((n : Int) % 256), .string a, .string b, .string c, .string d, .string e]) ?_ rfl ?_
  · simp [results, Try.results40, go_sem, *]
  · exact ⟨rfl, by repeat (first | with_reducible exact HB1.out | with_reducible refine g_alloc ?_ _ | with_reducible refine g_set3 ?_ (Nat.le_add_right _ _))⟩

end Go.Proofs.Ytohnhjmiblgkkaa
