/-
  THE CONTRACTS of the reference's First, Span and Select.
-/
import Derived.Test.YteogmfgabnpleaaFSel
namespace Go.Proofs.Yteogmfgabnpleaa
open Go.RowKit Go.Sort

theorem rprefix_gw (a b c d e f : ByteArray) (x : Bool) (n : Int) (w : World) (h : fpre ⟨a, b, c, d, e, f, x⟩ = n) :
    Calls Try.prog 25 #[.agg #[.string a, .string b, .string c, .string d, .string e, .string f, .bool x]] w fun r w' => r = .returned (.int .i64 n) ∧ Grew w w' := by
  have q := rprefix ⟨a, b, c, d, e, f, x⟩ w; rw [h] at q; exact q
theorem fst0 {f : Fil} (h : f.a.toList.isEmpty = true) : fst1 f = ⟨⟨#[]⟩, ⟨#[]⟩, ⟨#[]⟩, ⟨#[]⟩, ⟨#[]⟩, ⟨#[]⟩, false⟩ := by unfold fst1; rw [if_pos h]
theorem fst11 {f : Fil} (h : f.a.toList.isEmpty = false) (k : f.b.toList.isEmpty = true) : fst1 f = ⟨f.a, ⟨#[]⟩, ⟨#[]⟩, ⟨#[]⟩, ⟨#[]⟩, ⟨#[]⟩, false⟩ := by unfold fst1; rw [if_neg (by rw [h]; decide), if_pos k]
theorem fst2 {f : Fil} (h : f.a.toList.isEmpty = false) (k : f.b.toList.isEmpty = false) (l : f.c.toList.isEmpty = true) : fst1 f = ⟨f.a, f.b, ⟨#[]⟩, ⟨#[]⟩, ⟨#[]⟩, ⟨#[]⟩, false⟩ := by unfold fst1; rw [if_neg (by rw [h]; decide), if_neg (by rw [k]; decide), if_pos l]
theorem fst3 {f : Fil} (h : f.a.toList.isEmpty = false) (k : f.b.toList.isEmpty = false) (l : f.c.toList.isEmpty = false) (x : f.x = false) : fst1 f = ⟨f.a, f.b, f.c, ⟨#[]⟩, ⟨#[]⟩, ⟨#[]⟩, false⟩ := by unfold fst1; rw [if_neg (by rw [h]; decide), if_neg (by rw [k]; decide), if_neg (by rw [l]; decide), if_neg (by rw [x]; decide)]
theorem fst4 {f : Fil} (h : f.a.toList.isEmpty = false) (k : f.b.toList.isEmpty = false) (l : f.c.toList.isEmpty = false) (x : f.x = true) : fst1 f = f := by unfold fst1; rw [if_neg (by rw [h]; decide), if_neg (by rw [k]; decide), if_neg (by rw [l]; decide), if_pos x]

set_option maxRecDepth 20000 in
set_option maxHeartbeats 2000000 in
theorem first_0 (a b c d e f : ByteArray) (x : Bool) (w : World) (ea : a.toList.isEmpty = true) :
    Calls Try.prog 56 #[.agg #[.string a, .string b, .string c, .string d, .string e, .string f, .bool x]] w fun r w' => r = .returned (valF (fst1 ⟨a, b, c, d, e, f, x⟩)) ∧ Grew w w' := by
  have HK := hid (fst0 (f := ⟨a, b, c, d, e, f, x⟩) ea)
  have HP := hid (fpre0 (f := ⟨a, b, c, d, e, f, x⟩) ea)
  clear ea
  go_enter Try.func56, Try.ntmps56
  go_wp2_with fail
  refine (rprefix_gw a b c d e f x 0 _ HP.out).mono ?_
  rintro r w1 ⟨rfl, hw1⟩
  have hz1 : w.heap.size + 1 < w1.heap.size := by have := hw1.size; simp at this; omega
  have own := own_cells hw1.toBelow (w.heap.size + 1) (by simp)
  have HFB : Hid (FB w1 w.heap.size ⟨a, b, c, d, e, f, x⟩) := hid (FB.keep (by simp only [FB]; exact ⟨by go_simp, by go_simp, by go_simp, by go_simp, by go_simp, by go_simp, by go_simp, by simp <;> omega⟩) hw1.toBelow)
  have xc0 : w1.cell? ⟨w.heap.size + 1, 0, none⟩ = some (.string ⟨#[]⟩) := (own 0).1.trans (by go_simp)
  have xf0 : w1.frozen? ⟨w.heap.size + 1, 0, none⟩ = false := (own 0).2.trans (by go_simp)
  have xc1 : w1.cell? ⟨w.heap.size + 1, 1, none⟩ = some (.string ⟨#[]⟩) := (own 1).1.trans (by go_simp)
  have xf1 : w1.frozen? ⟨w.heap.size + 1, 1, none⟩ = false := (own 1).2.trans (by go_simp)
  have xc2 : w1.cell? ⟨w.heap.size + 1, 2, none⟩ = some (.string ⟨#[]⟩) := (own 2).1.trans (by go_simp)
  have xf2 : w1.frozen? ⟨w.heap.size + 1, 2, none⟩ = false := (own 2).2.trans (by go_simp)
  have xc3 : w1.cell? ⟨w.heap.size + 1, 3, none⟩ = some (.string ⟨#[]⟩) := (own 3).1.trans (by go_simp)
  have xf3 : w1.frozen? ⟨w.heap.size + 1, 3, none⟩ = false := (own 3).2.trans (by go_simp)
  have xc4 : w1.cell? ⟨w.heap.size + 1, 4, none⟩ = some (.string ⟨#[]⟩) := (own 4).1.trans (by go_simp)
  have xf4 : w1.frozen? ⟨w.heap.size + 1, 4, none⟩ = false := (own 4).2.trans (by go_simp)
  have xc5 : w1.cell? ⟨w.heap.size + 1, 5, none⟩ = some (.string ⟨#[]⟩) := (own 5).1.trans (by go_simp)
  have xf5 : w1.frozen? ⟨w.heap.size + 1, 5, none⟩ = false := (own 5).2.trans (by go_simp)
  have xc6 : w1.cell? ⟨w.heap.size + 1, 6, none⟩ = some (.bool false) := (own 6).1.trans (by go_simp)
  have xf6 : w1.frozen? ⟨w.heap.size + 1, 6, none⟩ = false := (own 6).2.trans (by go_simp)
  clear own
  have hB1 : Grew w w1 := gw_trans (gw_alloc (gw_alloc gw_refl _) _) hw1
  clear hw1
  obtain ⟨p0, p1, p2, p3, p4, p5, p6, p7⟩ := HFB.out
  go_wp2
  refine bodyPost_ret (v := .agg #[.string ⟨#[]⟩, .string ⟨#[]⟩, .string ⟨#[]⟩, .string ⟨#[]⟩, .string ⟨#[]⟩, .string ⟨#[]⟩, .bool false]) (by simp [results, Try.results56, go_sem, *]) rfl ⟨by rw [HK.out]; rfl, ?_⟩
  repeat (first | (with_reducible refine gw_alloc ?_ _) | (with_reducible refine gw_set ?_ (by simp <;> omega) _))
  exact hB1

set_option maxRecDepth 20000 in
set_option maxHeartbeats 2000000 in
theorem first_1 (a b c d e f : ByteArray) (x : Bool) (w : World) (ea : a.toList.isEmpty = false) (eb : b.toList.isEmpty = true) :
    Calls Try.prog 56 #[.agg #[.string a, .string b, .string c, .string d, .string e, .string f, .bool x]] w fun r w' => r = .returned (valF (fst1 ⟨a, b, c, d, e, f, x⟩)) ∧ Grew w w' := by
  have HK := hid (fst11 (f := ⟨a, b, c, d, e, f, x⟩) ea eb)
  have HP := hid (fpre1 (f := ⟨a, b, c, d, e, f, x⟩) ea eb)
  clear ea eb
  go_enter Try.func56, Try.ntmps56
  go_wp2_with fail
  refine (rprefix_gw a b c d e f x 1 _ HP.out).mono ?_
  rintro r w1 ⟨rfl, hw1⟩
  have hz1 : w.heap.size + 1 < w1.heap.size := by have := hw1.size; simp at this; omega
  have own := own_cells hw1.toBelow (w.heap.size + 1) (by simp)
  have HFB : Hid (FB w1 w.heap.size ⟨a, b, c, d, e, f, x⟩) := hid (FB.keep (by simp only [FB]; exact ⟨by go_simp, by go_simp, by go_simp, by go_simp, by go_simp, by go_simp, by go_simp, by simp <;> omega⟩) hw1.toBelow)
  have xc0 : w1.cell? ⟨w.heap.size + 1, 0, none⟩ = some (.string ⟨#[]⟩) := (own 0).1.trans (by go_simp)
  have xf0 : w1.frozen? ⟨w.heap.size + 1, 0, none⟩ = false := (own 0).2.trans (by go_simp)
  have xc1 : w1.cell? ⟨w.heap.size + 1, 1, none⟩ = some (.string ⟨#[]⟩) := (own 1).1.trans (by go_simp)
  have xf1 : w1.frozen? ⟨w.heap.size + 1, 1, none⟩ = false := (own 1).2.trans (by go_simp)
  have xc2 : w1.cell? ⟨w.heap.size + 1, 2, none⟩ = some (.string ⟨#[]⟩) := (own 2).1.trans (by go_simp)
  have xf2 : w1.frozen? ⟨w.heap.size + 1, 2, none⟩ = false := (own 2).2.trans (by go_simp)
  have xc3 : w1.cell? ⟨w.heap.size + 1, 3, none⟩ = some (.string ⟨#[]⟩) := (own 3).1.trans (by go_simp)
  have xf3 : w1.frozen? ⟨w.heap.size + 1, 3, none⟩ = false := (own 3).2.trans (by go_simp)
  have xc4 : w1.cell? ⟨w.heap.size + 1, 4, none⟩ = some (.string ⟨#[]⟩) := (own 4).1.trans (by go_simp)
  have xf4 : w1.frozen? ⟨w.heap.size + 1, 4, none⟩ = false := (own 4).2.trans (by go_simp)
  have xc5 : w1.cell? ⟨w.heap.size + 1, 5, none⟩ = some (.string ⟨#[]⟩) := (own 5).1.trans (by go_simp)
  have xf5 : w1.frozen? ⟨w.heap.size + 1, 5, none⟩ = false := (own 5).2.trans (by go_simp)
  have xc6 : w1.cell? ⟨w.heap.size + 1, 6, none⟩ = some (.bool false) := (own 6).1.trans (by go_simp)
  have xf6 : w1.frozen? ⟨w.heap.size + 1, 6, none⟩ = false := (own 6).2.trans (by go_simp)
  clear own
  have hB1 : Grew w w1 := gw_trans (gw_alloc (gw_alloc gw_refl _) _) hw1
  clear hw1
  obtain ⟨p0, p1, p2, p3, p4, p5, p6, p7⟩ := HFB.out
  go_wp2
  refine bodyPost_ret (v := .agg #[.string a, .string ⟨#[]⟩, .string ⟨#[]⟩, .string ⟨#[]⟩, .string ⟨#[]⟩, .string ⟨#[]⟩, .bool false]) (by simp [results, Try.results56, go_sem, *]) rfl ⟨by rw [HK.out]; rfl, ?_⟩
  repeat (first | (with_reducible refine gw_alloc ?_ _) | (with_reducible refine gw_set ?_ (by simp <;> omega) _))
  exact hB1

set_option maxRecDepth 20000 in
set_option maxHeartbeats 2000000 in
theorem first_2 (a b c d e f : ByteArray) (x : Bool) (w : World) (ea : a.toList.isEmpty = false) (eb : b.toList.isEmpty = false) (ec : c.toList.isEmpty = true) :
    Calls Try.prog 56 #[.agg #[.string a, .string b, .string c, .string d, .string e, .string f, .bool x]] w fun r w' => r = .returned (valF (fst1 ⟨a, b, c, d, e, f, x⟩)) ∧ Grew w w' := by
  have HK := hid (fst2 (f := ⟨a, b, c, d, e, f, x⟩) ea eb ec)
  have HP := hid (fpre2 (f := ⟨a, b, c, d, e, f, x⟩) ea eb ec)
  clear ea eb ec
  go_enter Try.func56, Try.ntmps56
  go_wp2_with fail
  refine (rprefix_gw a b c d e f x 2 _ HP.out).mono ?_
  rintro r w1 ⟨rfl, hw1⟩
  have hz1 : w.heap.size + 1 < w1.heap.size := by have := hw1.size; simp at this; omega
  have own := own_cells hw1.toBelow (w.heap.size + 1) (by simp)
  have HFB : Hid (FB w1 w.heap.size ⟨a, b, c, d, e, f, x⟩) := hid (FB.keep (by simp only [FB]; exact ⟨by go_simp, by go_simp, by go_simp, by go_simp, by go_simp, by go_simp, by go_simp, by simp <;> omega⟩) hw1.toBelow)
  have xc0 : w1.cell? ⟨w.heap.size + 1, 0, none⟩ = some (.string ⟨#[]⟩) := (own 0).1.trans (by go_simp)
  have xf0 : w1.frozen? ⟨w.heap.size + 1, 0, none⟩ = false := (own 0).2.trans (by go_simp)
  have xc1 : w1.cell? ⟨w.heap.size + 1, 1, none⟩ = some (.string ⟨#[]⟩) := (own 1).1.trans (by go_simp)
  have xf1 : w1.frozen? ⟨w.heap.size + 1, 1, none⟩ = false := (own 1).2.trans (by go_simp)
  have xc2 : w1.cell? ⟨w.heap.size + 1, 2, none⟩ = some (.string ⟨#[]⟩) := (own 2).1.trans (by go_simp)
  have xf2 : w1.frozen? ⟨w.heap.size + 1, 2, none⟩ = false := (own 2).2.trans (by go_simp)
  have xc3 : w1.cell? ⟨w.heap.size + 1, 3, none⟩ = some (.string ⟨#[]⟩) := (own 3).1.trans (by go_simp)
  have xf3 : w1.frozen? ⟨w.heap.size + 1, 3, none⟩ = false := (own 3).2.trans (by go_simp)
  have xc4 : w1.cell? ⟨w.heap.size + 1, 4, none⟩ = some (.string ⟨#[]⟩) := (own 4).1.trans (by go_simp)
  have xf4 : w1.frozen? ⟨w.heap.size + 1, 4, none⟩ = false := (own 4).2.trans (by go_simp)
  have xc5 : w1.cell? ⟨w.heap.size + 1, 5, none⟩ = some (.string ⟨#[]⟩) := (own 5).1.trans (by go_simp)
  have xf5 : w1.frozen? ⟨w.heap.size + 1, 5, none⟩ = false := (own 5).2.trans (by go_simp)
  have xc6 : w1.cell? ⟨w.heap.size + 1, 6, none⟩ = some (.bool false) := (own 6).1.trans (by go_simp)
  have xf6 : w1.frozen? ⟨w.heap.size + 1, 6, none⟩ = false := (own 6).2.trans (by go_simp)
  clear own
  have hB1 : Grew w w1 := gw_trans (gw_alloc (gw_alloc gw_refl _) _) hw1
  clear hw1
  obtain ⟨p0, p1, p2, p3, p4, p5, p6, p7⟩ := HFB.out
  go_wp2
  refine bodyPost_ret (v := .agg #[.string a, .string b, .string ⟨#[]⟩, .string ⟨#[]⟩, .string ⟨#[]⟩, .string ⟨#[]⟩, .bool false]) (by simp [results, Try.results56, go_sem, *]) rfl ⟨by rw [HK.out]; rfl, ?_⟩
  repeat (first | (with_reducible refine gw_alloc ?_ _) | (with_reducible refine gw_set ?_ (by simp <;> omega) _))
  exact hB1

set_option maxRecDepth 20000 in
set_option maxHeartbeats 2000000 in
theorem first_3 (a b c d e f : ByteArray) (w : World) (ea : a.toList.isEmpty = false) (eb : b.toList.isEmpty = false) (ec : c.toList.isEmpty = false) :
    Calls Try.prog 56 #[.agg #[.string a, .string b, .string c, .string d, .string e, .string f, .bool false]] w fun r w' => r = .returned (valF (fst1 ⟨a, b, c, d, e, f, false⟩)) ∧ Grew w w' := by
  have HK := hid (fst3 (f := ⟨a, b, c, d, e, f, false⟩) ea eb ec rfl)
  have HP := hid (fpre3 (f := ⟨a, b, c, d, e, f, false⟩) ea eb ec rfl)
  clear ea eb ec
  go_enter Try.func56, Try.ntmps56
  go_wp2_with fail
  refine (rprefix_gw a b c d e f false 3 _ HP.out).mono ?_
  rintro r w1 ⟨rfl, hw1⟩
  have hz1 : w.heap.size + 1 < w1.heap.size := by have := hw1.size; simp at this; omega
  have own := own_cells hw1.toBelow (w.heap.size + 1) (by simp)
  have HFB : Hid (FB w1 w.heap.size ⟨a, b, c, d, e, f, false⟩) := hid (FB.keep (by simp only [FB]; exact ⟨by go_simp, by go_simp, by go_simp, by go_simp, by go_simp, by go_simp, by go_simp, by simp <;> omega⟩) hw1.toBelow)
  have xc0 : w1.cell? ⟨w.heap.size + 1, 0, none⟩ = some (.string ⟨#[]⟩) := (own 0).1.trans (by go_simp)
  have xf0 : w1.frozen? ⟨w.heap.size + 1, 0, none⟩ = false := (own 0).2.trans (by go_simp)
  have xc1 : w1.cell? ⟨w.heap.size + 1, 1, none⟩ = some (.string ⟨#[]⟩) := (own 1).1.trans (by go_simp)
  have xf1 : w1.frozen? ⟨w.heap.size + 1, 1, none⟩ = false := (own 1).2.trans (by go_simp)
  have xc2 : w1.cell? ⟨w.heap.size + 1, 2, none⟩ = some (.string ⟨#[]⟩) := (own 2).1.trans (by go_simp)
  have xf2 : w1.frozen? ⟨w.heap.size + 1, 2, none⟩ = false := (own 2).2.trans (by go_simp)
  have xc3 : w1.cell? ⟨w.heap.size + 1, 3, none⟩ = some (.string ⟨#[]⟩) := (own 3).1.trans (by go_simp)
  have xf3 : w1.frozen? ⟨w.heap.size + 1, 3, none⟩ = false := (own 3).2.trans (by go_simp)
  have xc4 : w1.cell? ⟨w.heap.size + 1, 4, none⟩ = some (.string ⟨#[]⟩) := (own 4).1.trans (by go_simp)
  have xf4 : w1.frozen? ⟨w.heap.size + 1, 4, none⟩ = false := (own 4).2.trans (by go_simp)
  have xc5 : w1.cell? ⟨w.heap.size + 1, 5, none⟩ = some (.string ⟨#[]⟩) := (own 5).1.trans (by go_simp)
  have xf5 : w1.frozen? ⟨w.heap.size + 1, 5, none⟩ = false := (own 5).2.trans (by go_simp)
  have xc6 : w1.cell? ⟨w.heap.size + 1, 6, none⟩ = some (.bool false) := (own 6).1.trans (by go_simp)
  have xf6 : w1.frozen? ⟨w.heap.size + 1, 6, none⟩ = false := (own 6).2.trans (by go_simp)
  clear own
  have hB1 : Grew w w1 := gw_trans (gw_alloc (gw_alloc gw_refl _) _) hw1
  clear hw1
  obtain ⟨p0, p1, p2, p3, p4, p5, p6, p7⟩ := HFB.out
  go_wp2
  refine bodyPost_ret (v := .agg #[.string a, .string b, .string c, .string ⟨#[]⟩, .string ⟨#[]⟩, .string ⟨#[]⟩, .bool false]) (by simp [results, Try.results56, go_sem, *]) rfl ⟨by rw [HK.out]; rfl, ?_⟩
  repeat (first | (with_reducible refine gw_alloc ?_ _) | (with_reducible refine gw_set ?_ (by simp <;> omega) _))
  exact hB1

set_option maxRecDepth 20000 in
set_option maxHeartbeats 2000000 in
theorem first_4 (a b c d e f : ByteArray) (w : World) (ea : a.toList.isEmpty = false) (eb : b.toList.isEmpty = false) (ec : c.toList.isEmpty = false) :
    Calls Try.prog 56 #[.agg #[.string a, .string b, .string c, .string d, .string e, .string f, .bool true]] w fun r w' => r = .returned (valF (fst1 ⟨a, b, c, d, e, f, true⟩)) ∧ Grew w w' := by
  have HK := hid (fst4 (f := ⟨a, b, c, d, e, f, true⟩) ea eb ec rfl)
  have HP := hid (fpre4 (f := ⟨a, b, c, d, e, f, true⟩) ea eb ec rfl)
  clear ea eb ec
  go_enter Try.func56, Try.ntmps56
  go_wp2_with fail
  refine (rprefix_gw a b c d e f true 4 _ HP.out).mono ?_
  rintro r w1 ⟨rfl, hw1⟩
  have hz1 : w.heap.size + 1 < w1.heap.size := by have := hw1.size; simp at this; omega
  have own := own_cells hw1.toBelow (w.heap.size + 1) (by simp)
  have HFB : Hid (FB w1 w.heap.size ⟨a, b, c, d, e, f, true⟩) := hid (FB.keep (by simp only [FB]; exact ⟨by go_simp, by go_simp, by go_simp, by go_simp, by go_simp, by go_simp, by go_simp, by simp <;> omega⟩) hw1.toBelow)
  have xc0 : w1.cell? ⟨w.heap.size + 1, 0, none⟩ = some (.string ⟨#[]⟩) := (own 0).1.trans (by go_simp)
  have xf0 : w1.frozen? ⟨w.heap.size + 1, 0, none⟩ = false := (own 0).2.trans (by go_simp)
  have xc1 : w1.cell? ⟨w.heap.size + 1, 1, none⟩ = some (.string ⟨#[]⟩) := (own 1).1.trans (by go_simp)
  have xf1 : w1.frozen? ⟨w.heap.size + 1, 1, none⟩ = false := (own 1).2.trans (by go_simp)
  have xc2 : w1.cell? ⟨w.heap.size + 1, 2, none⟩ = some (.string ⟨#[]⟩) := (own 2).1.trans (by go_simp)
  have xf2 : w1.frozen? ⟨w.heap.size + 1, 2, none⟩ = false := (own 2).2.trans (by go_simp)
  have xc3 : w1.cell? ⟨w.heap.size + 1, 3, none⟩ = some (.string ⟨#[]⟩) := (own 3).1.trans (by go_simp)
  have xf3 : w1.frozen? ⟨w.heap.size + 1, 3, none⟩ = false := (own 3).2.trans (by go_simp)
  have xc4 : w1.cell? ⟨w.heap.size + 1, 4, none⟩ = some (.string ⟨#[]⟩) := (own 4).1.trans (by go_simp)
  have xf4 : w1.frozen? ⟨w.heap.size + 1, 4, none⟩ = false := (own 4).2.trans (by go_simp)
  have xc5 : w1.cell? ⟨w.heap.size + 1, 5, none⟩ = some (.string ⟨#[]⟩) := (own 5).1.trans (by go_simp)
  have xf5 : w1.frozen? ⟨w.heap.size + 1, 5, none⟩ = false := (own 5).2.trans (by go_simp)
  have xc6 : w1.cell? ⟨w.heap.size + 1, 6, none⟩ = some (.bool false) := (own 6).1.trans (by go_simp)
  have xf6 : w1.frozen? ⟨w.heap.size + 1, 6, none⟩ = false := (own 6).2.trans (by go_simp)
  clear own
  have hB1 : Grew w w1 := gw_trans (gw_alloc (gw_alloc gw_refl _) _) hw1
  clear hw1
  obtain ⟨p0, p1, p2, p3, p4, p5, p6, p7⟩ := HFB.out
  go_wp2
  refine bodyPost_ret (v := .agg #[.string a, .string b, .string c, .string d, .string e, .string f, .bool true]) (by simp [results, Try.results56, go_sem, *]) rfl ⟨by rw [HK.out]; rfl, ?_⟩
  repeat (first | (with_reducible refine gw_alloc ?_ _) | (with_reducible refine gw_set ?_ (by simp <;> omega) _))
  exact hB1

theorem first_any (f : Fil) (w : World) :
    Calls Try.prog 56 #[valF f] w fun r w' => r = .returned (valF (fst1 f)) ∧ Grew w w' := by
  obtain ⟨a, b, c, d, e, f, x⟩ := f
  cases ea : a.toList.isEmpty
  · cases eb : b.toList.isEmpty
    · cases ec : c.toList.isEmpty
      · cases x
        · exact first_3 a b c d e f w ea eb ec
        · exact first_4 a b c d e f w ea eb ec
      · exact first_2 a b c d e f x w ea eb ec
    · exact first_1 a b c d e f x w ea eb
  · exact first_0 a b c d e f x w ea
theorem rtakes_q (f : Fil) (t : Tup) (v : Int) (hv : takesI f t = v) (w : World) (n : Nat) (os : Array Obj) :
    Calls Try.prog 27 #[valF f, val t] (grow (w.drewN n) os) fun e w'' => e = .returned (.int .i64 v) ∧ ∃ p : GrownBy, w'' = grow (w.drewN p.n) p.os :=
  Calls.grown_of ((rtakes f t _).mono fun _ _ h => ⟨by rw [h.1, hv], h.2.out⟩)
/-- a filter in a block, in every world that grew -/
def FG (w : World) (b : Nat) (f : Fil) : Prop :=
  (∀ n os, (grow (w.drewN n) os).cell? ⟨b, 0, none⟩ = some (.string f.a)) ∧ (∀ n os, (grow (w.drewN n) os).cell? ⟨b, 1, none⟩ = some (.string f.b)) ∧ (∀ n os, (grow (w.drewN n) os).cell? ⟨b, 2, none⟩ = some (.string f.c)) ∧
  (∀ n os, (grow (w.drewN n) os).cell? ⟨b, 3, none⟩ = some (.string f.d)) ∧ (∀ n os, (grow (w.drewN n) os).cell? ⟨b, 4, none⟩ = some (.string f.e)) ∧ (∀ n os, (grow (w.drewN n) os).cell? ⟨b, 5, none⟩ = some (.string f.f)) ∧ (∀ n os, (grow (w.drewN n) os).cell? ⟨b, 6, none⟩ = some (.bool f.x))
theorem FB.grown {w : World} {b : Nat} {f : Fil} (h : FB w b f) : FG w b f := by
  obtain ⟨h0, h1, h2, h3, h4, h5, h6, h7⟩ := h
  have k : ∀ (n : Nat) (os : Array Obj) (o : Nat), (grow (w.drewN n) os).cell? ⟨b, o, none⟩ = w.cell? ⟨b, o, none⟩ := fun n os o => (Grew.of_grow w n os).toBelow.cell (p := ⟨b, o, none⟩) h7
  exact ⟨fun n os => (k n os _).trans h0, fun n os => (k n os _).trans h1, fun n os => (k n os _).trans h2, fun n os => (k n os _).trans h3, fun n os => (k n os _).trans h4, fun n os => (k n os _).trans h5, fun n os => (k n os _).trans h6⟩
theorem tkI_yes {f : Fil} {t : Tup} (h : takes f t = true) : takesI f t = 1 := by unfold takesI; rw [if_pos h]
theorem tkI_no {f : Fil} {t : Tup} (h : takes f t = false) : takesI f t = 0 := by unfold takesI; rw [if_neg (by rw [h]; decide)]

set_option maxRecDepth 20000 in
set_option maxHeartbeats 4000000 in
theorem rselect (f : Fil) (A : Option Addr) (l : List Tup) (c : Nat) (w : World) (hR : Row w A l) (hn : l.length ≤ 9000) :
    Calls Try.prog 24 #[.slice A l.length c, valF f] w (Gives w (l.filter (takes f))) := by
  have hmx := mixed
  have HR := hid hR; clear hR
  obtain ⟨a, b', c', d, e, f, x⟩ := f
  simp only [valF]
  have HFB0 : Hid (FB (w.alloc (.cells #[.string a, .string b', .string c', .string d, .string e, .string f, .bool x] 48)) w.heap.size ⟨a, b', c', d, e, f, x⟩) := hid (by simp only [FB]; exact ⟨by go_simp, by go_simp, by go_simp, by go_simp, by go_simp, by go_simp, by go_simp, by simp⟩)
  go_enter Try.func24, Try.ntmps24
  go_wp2
  go_loopw [5, 6] (fun v i wr => ∃ k : Nat, k ≤ l.length ∧ i = .int .i64 k ∧ Own wr (w.heap.size + 1) v (selK ⟨a, b', c', d, e, f, x⟩ l k) ∧ Grew (w.alloc (.cells #[.string a, .string b', .string c', .string d, .string e, .string f, .bool x] 48)) wr) (fun _ i _ => l.length - (intOf i).toNat)
  case atStart => exact ⟨0, Nat.zero_le _, rfl, Own.nil _ _, gw_refl⟩
  case round =>
    obtain ⟨k, hk, rfl, hown, hw⟩ := hrel
    have HO := hid hown; clear hown
    by_cases hlt : k < l.length
    · obtain ⟨b, o, rfl, hL⟩ := ((HR.out.gw (gw_alloc gw_refl _)).gw hw).at_ hlt
      obtain ⟨q0, q1, q2, q3, q4, q5⟩ := hL.six hlt
      obtain ⟨p0, p1, p2, p3, p4, p5, p6⟩ := (HFB0.out.keep hw.toBelow).grown
      have HLS := hid hL; clear hL
      cases hu : takes ⟨a, b', c', d, e, f, x⟩ l[k]
      · have HU := hid hu; clear hu
        go_wp2_with fail
        go_quiet_grown (first | (go_at_call 27; exact rtakes_q ⟨a, b', c', d, e, f, x⟩ l[k] 0 (tkI_no HU.out) _ _ _))
        go_wp2
        go_roundw
        case rel => exact ⟨k + 1, by omega, by go_num, by rw [selK_no hlt HU.out]; exact HO.out.gw (gw_grow (gw_drewN gw_refl _) _), gw_grow (gw_drewN hw _) _⟩
        case measure => simp [intOf]; omega
      · have HU := hid hu; clear hu
        have hlen := selK_len ⟨a, b', c', d, e, f, x⟩ l k
        go_wp2_with fail
        go_quiet_grown (first | (go_at_call 27; exact rtakes_q ⟨a, b', c', d, e, f, x⟩ l[k] 1 (tkI_yes HU.out) _ _ _))
        have hw5 := gw_grow (gw_drewN hw nq) osq
        have hO5 := HO.out.gw (gw_grow (gw_drewN (gw_refl (a := wr)) nq) osq)
        have hL5 := HLS.out.below (gw_grow (gw_drewN (gw_refl (a := wr)) nq) osq).toBelow
        generalize grow (wr.drewN nq) osq = w5 at *
        clear p0 p1 p2 p3 p4 p5 p6 q0 q1 q2 q3 q4 q5 HO
        obtain ⟨q0, q1, q2, q3, q4, q5⟩ := (hL5.six hlt).at0
        have hz := hw5.size
        clear hL5
        go_wp2_with (at_builtin; refine wp_app _ _ rfl rfl (w.heap.size + 1) _ (selK ⟨a, b', c', d, e, f, x⟩ l k) w5.heap.size 1 l[k] rfl rfl (hO5.gw (gw_alloc gw_refl _)) (new_cells w5 l[k] _) (by omega) (by simp at hz ⊢; omega) ?_)
        intro v5 w6 hown6 hg6 hd6
        have hw6 : Grew (w.alloc (.cells #[.string a, .string b', .string c', .string d, .string e, .string f, .bool x] 48)) w6 := gw_grown (gw_alloc hw5 _) hg6 hd6 fun g hg => by have := (hO5.lt g hg).1; simpa using this
        go_wp2
        go_roundw
        case rel => exact ⟨k + 1, by omega, by go_num, by rw [← selK_yes hlt HU.out]; exact hown6, hw6⟩
        case measure => simp [intOf]; omega
    · have HE := hid (selK_end (f := ⟨a, b', c', d, e, f, x⟩) hlt)
      go_wp2
      go_ret
      exact ⟨_, rfl, by rw [← HE.out]; exact HO.out.mono (Nat.le_succ _), gw_trans (gw_alloc gw_refl _) hw⟩

/-- what the first loop of Span holds -/
def sA (n0 n1 k : Nat) : Int := if n0 < min k n1 then n0 else -1
def sB (n0 n1 k : Nat) : Int := if n0 < min k n1 then (min k n1 : Nat) else -1
theorem sA_neg {n0 n1 k : Nat} (h : ¬ n0 < min k n1) : sA n0 n1 k = -1 ∧ sB n0 n1 k = -1 := by unfold sA sB; rw [if_neg h, if_neg h]; exact ⟨rfl, rfl⟩
theorem sA_pos {n0 n1 k : Nat} (h : n0 < min k n1) : sA n0 n1 k = n0 ∧ sB n0 n1 k = (min k n1 : Nat) := by unfold sA sB; rw [if_pos h, if_pos h]; exact ⟨rfl, rfl⟩
theorem sA_keep {n0 n1 k : Nat} (h : ¬ (n0 ≤ k ∧ k < n1)) (hn : n0 ≤ n1) : sA n0 n1 (k + 1) = sA n0 n1 k ∧ sB n0 n1 (k + 1) = sB n0 n1 k := by
  by_cases h1 : n0 < min k n1
  · have h2 : n0 < min (k + 1) n1 := by omega
    rw [(sA_pos h1).1, (sA_pos h1).2, (sA_pos h2).1, (sA_pos h2).2]
    exact ⟨rfl, by omega⟩
  · have h2 : ¬ n0 < min (k + 1) n1 := by omega
    rw [(sA_neg h1).1, (sA_neg h1).2, (sA_neg h2).1, (sA_neg h2).2]
    exact ⟨rfl, rfl⟩
end Go.Proofs.Yteogmfgabnpleaa
