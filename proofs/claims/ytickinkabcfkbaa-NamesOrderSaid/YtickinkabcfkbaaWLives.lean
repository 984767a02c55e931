/-
  THE CONTRACT of lives: the examples of the chapter hold.
-/
import Derived.Test.YtickinkabcfkbaaWParse
import Derived.Test.YtickinkabcfkbaaWText
import Derived.Test.YtickinkabcfkbaaWOrd
namespace Go.Proofs.Ytickinkabcfkbaa
open Go.RowKit

theorem pf1 : parseF ⟨#[100, 111, 99, 58, 114, 101, 97, 100, 109, 101, 35, 118, 105, 101, 119, 101, 114]⟩ 1 1 = (⟨#[100, 111, 99]⟩, ⟨#[114, 101, 97, 100, 109, 101]⟩, ⟨#[118, 105, 101, 119, 101, 114]⟩, 0) := by decide +kernel
theorem pc1 (w : World) :
    Calls Try.prog 25 #[.string ⟨#[100, 111, 99, 58, 114, 101, 97, 100, 109, 101, 35, 118, 105, 101, 119, 101, 114]⟩] w fun e w' => e = .returned (.tuple #[.agg #[.string ⟨#[100, 111, 99]⟩, .string ⟨#[114, 101, 97, 100, 109, 101]⟩, .string ⟨#[118, 105, 101, 119, 101, 114]⟩], .int .i64 0]) ∧ Below w.heap.size w w' := by
  have q := parseGoal_any ⟨#[100, 111, 99, 58, 114, 101, 97, 100, 109, 101, 35, 118, 105, 101, 119, 101, 114]⟩ w (by decide)
  unfold GoalRet at q
  rw [pf1] at q
  exact q

theorem pf2 : parseF ⟨#[100, 111, 99, 58, 114, 101, 97, 100, 109, 101]⟩ 1 1 = (⟨#[]⟩, ⟨#[]⟩, ⟨#[]⟩, 5) := by decide +kernel
theorem pc2 (w : World) :
    Calls Try.prog 25 #[.string ⟨#[100, 111, 99, 58, 114, 101, 97, 100, 109, 101]⟩] w fun e w' => e = .returned (.tuple #[.agg #[.string ⟨#[]⟩, .string ⟨#[]⟩, .string ⟨#[]⟩], .int .i64 5]) ∧ Below w.heap.size w w' := by
  have q := parseGoal_any ⟨#[100, 111, 99, 58, 114, 101, 97, 100, 109, 101]⟩ w (by decide)
  unfold GoalRet at q
  rw [pf2] at q
  exact q

theorem pf3 : parseF ⟨#[117, 115, 101, 114, 58, 97, 110, 110, 97]⟩ 0 1 = (⟨#[117, 115, 101, 114]⟩, ⟨#[97, 110, 110, 97]⟩, ⟨#[]⟩, 0) := by decide +kernel
theorem pc3 (w : World) :
    Calls Try.prog 23 #[.string ⟨#[117, 115, 101, 114, 58, 97, 110, 110, 97]⟩] w fun e w' => e = .returned (.tuple #[.agg #[.string ⟨#[117, 115, 101, 114]⟩, .string ⟨#[97, 110, 110, 97]⟩, .string ⟨#[]⟩], .int .i64 0]) ∧ Below w.heap.size w w' := by
  have q := parseSubject_any ⟨#[117, 115, 101, 114, 58, 97, 110, 110, 97]⟩ w (by decide)
  unfold SubjectRet at q
  rw [pf3] at q
  exact q

theorem pf4 : parseF ⟨#[117, 115, 101, 114, 58, 97, 110, 110, 97, 35]⟩ 0 1 = (⟨#[]⟩, ⟨#[]⟩, ⟨#[]⟩, 6) := by decide +kernel
theorem pc4 (w : World) :
    Calls Try.prog 23 #[.string ⟨#[117, 115, 101, 114, 58, 97, 110, 110, 97, 35]⟩] w fun e w' => e = .returned (.tuple #[.agg #[.string ⟨#[]⟩, .string ⟨#[]⟩, .string ⟨#[]⟩], .int .i64 6]) ∧ Below w.heap.size w w' := by
  have q := parseSubject_any ⟨#[117, 115, 101, 114, 58, 97, 110, 110, 97, 35]⟩ w (by decide)
  unfold SubjectRet at q
  rw [pf4] at q
  exact q

theorem pf5 : parseF ⟨#[97, 58, 98, 58, 99]⟩ 0 0 = (⟨#[]⟩, ⟨#[]⟩, ⟨#[]⟩, 5) := by decide +kernel
theorem pc5 (w : World) :
    Calls Try.prog 24 #[.string ⟨#[97, 58, 98, 58, 99]⟩] w fun e w' => e = .returned (.tuple #[.agg #[.string ⟨#[]⟩, .string ⟨#[]⟩], .int .i64 5]) ∧ Below w.heap.size w w' := by
  have q := parseObject_any ⟨#[97, 58, 98, 58, 99]⟩ w (by decide)
  unfold ObjectRet at q
  rw [pf5] at q
  exact q

theorem pf6 : parseF ⟨#[97, 58]⟩ 0 0 = (⟨#[]⟩, ⟨#[]⟩, ⟨#[]⟩, 6) := by decide +kernel
theorem pc6 (w : World) :
    Calls Try.prog 24 #[.string ⟨#[97, 58]⟩] w fun e w' => e = .returned (.tuple #[.agg #[.string ⟨#[]⟩, .string ⟨#[]⟩], .int .i64 6]) ∧ Below w.heap.size w w' := by
  have q := parseObject_any ⟨#[97, 58]⟩ w (by decide)
  unfold ObjectRet at q
  rw [pf6] at q
  exact q

theorem pf7 : parseF ⟨#[97, 35, 98, 58, 99]⟩ 0 1 = (⟨#[]⟩, ⟨#[]⟩, ⟨#[]⟩, 5) := by decide +kernel
theorem pc7 (w : World) :
    Calls Try.prog 23 #[.string ⟨#[97, 35, 98, 58, 99]⟩] w fun e w' => e = .returned (.tuple #[.agg #[.string ⟨#[]⟩, .string ⟨#[]⟩, .string ⟨#[]⟩], .int .i64 5]) ∧ Below w.heap.size w w' := by
  have q := parseSubject_any ⟨#[97, 35, 98, 58, 99]⟩ w (by decide)
  unfold SubjectRet at q
  rw [pf7] at q
  exact q

theorem c_yes (s : ByteArray) (w : World) (hs : s.size ≤ 40) (hb : nb s = true) :
    Calls Try.prog 9 #[.string s] w fun e w' => e = .returned (.int .i64 0) ∧ w = w' := check_yes s w (Nat.le_trans hs (by decide)) hb
theorem c_no (s : ByteArray) (w : World) (hs : s.size ≤ 40) (hb : nb s = false) :
    Calls Try.prog 9 #[.string s] w fun e w' => e = .returned (.int .i64 6) ∧ w = w' := check_no s w (Nat.le_trans hs (by decide)) hb
theorem gtext_live (w : World) :
    Calls Try.prog 19 #[.agg #[.string ⟨#[100, 111, 99]⟩, .string ⟨#[114, 101, 97, 100, 109, 101]⟩, .string ⟨#[118, 105, 101, 119, 101, 114]⟩]] w fun e w' => e = .returned (.string ⟨#[100, 111, 99, 58, 114, 101, 97, 100, 109, 101, 35, 118, 105, 101, 119, 101, 114]⟩) ∧ Below w.heap.size w w' := by
  have q := gtext_any ⟨#[100, 111, 99]⟩ ⟨#[114, 101, 97, 100, 109, 101]⟩ ⟨#[118, 105, 101, 119, 101, 114]⟩ w (by decide) (by decide) (by decide)
  rw [show gtxt ⟨#[100, 111, 99]⟩ ⟨#[114, 101, 97, 100, 109, 101]⟩ ⟨#[118, 105, 101, 119, 101, 114]⟩ = ⟨#[100, 111, 99, 58, 114, 101, 97, 100, 109, 101, 35, 118, 105, 101, 119, 101, 114]⟩ by decide +kernel] at q
  exact q
theorem compare_live (w : World) :
    Calls Try.prog 30 #[.agg #[.string ⟨#[97]⟩, .string ⟨#[122]⟩], .agg #[.string ⟨#[97, 48]⟩, .string ⟨#[97]⟩]] w fun e w' => e = .returned (.int .i64 (-1)) ∧ Below w.heap.size w w' := by
  have q := compare_any ⟨#[97]⟩ ⟨#[122]⟩ ⟨#[97, 48]⟩ ⟨#[97]⟩ w
  rw [show cmpO ⟨#[97]⟩ ⟨#[122]⟩ ⟨#[97, 48]⟩ ⟨#[97]⟩ = -1 by decide +kernel] at q
  exact q
theorem text_live1 (w : World) :
    Calls Try.prog 17 #[.agg #[.string ⟨#[97]⟩, .string ⟨#[122]⟩]] w fun e w' => e = .returned (.string ⟨#[97, 58, 122]⟩) ∧ Below w.heap.size w w' := by
  have q := text_any ⟨#[97]⟩ ⟨#[122]⟩ w (by decide) (by decide)
  rw [show txt ⟨#[97]⟩ ⟨#[122]⟩ = ⟨#[97, 58, 122]⟩ by decide +kernel] at q
  exact q
theorem text_live2 (w : World) :
    Calls Try.prog 17 #[.agg #[.string ⟨#[97, 48]⟩, .string ⟨#[97]⟩]] w fun e w' => e = .returned (.string ⟨#[97, 48, 58, 97]⟩) ∧ Below w.heap.size w w' := by
  have q := text_any ⟨#[97, 48]⟩ ⟨#[97]⟩ w (by decide) (by decide)
  rw [show txt ⟨#[97, 48]⟩ ⟨#[97]⟩ = ⟨#[97, 48, 58, 97]⟩ by decide +kernel] at q
  exact q

theorem live_keep {b1 b3 b7 : Nat} {W W' : World} (hb : Below W.heap.size W W') (h : W.cell? ⟨b1, 0, none⟩ = some (.string ⟨#[100, 111, 99]⟩) ∧ W.cell? ⟨b1, 1, none⟩ = some (.string ⟨#[114, 101, 97, 100, 109, 101]⟩) ∧ W.cell? ⟨b1, 2, none⟩ = some (.string ⟨#[118, 105, 101, 119, 101, 114]⟩) ∧ W.cell? ⟨b3, 0, none⟩ = some (.string ⟨#[117, 115, 101, 114]⟩) ∧ W.cell? ⟨b3, 1, none⟩ = some (.string ⟨#[97, 110, 110, 97]⟩) ∧ W.cell? ⟨b3, 2, none⟩ = some (.string ⟨#[]⟩) ∧ W.cell? ⟨b7 + 1, 0, none⟩ = some (.string ⟨#[97]⟩) ∧ W.cell? ⟨b7 + 1, 1, none⟩ = some (.string ⟨#[122]⟩) ∧ W.cell? ⟨b7 + 1 + 1, 0, none⟩ = some (.string ⟨#[97, 48]⟩) ∧ W.cell? ⟨b7 + 1 + 1, 1, none⟩ = some (.string ⟨#[97]⟩) ∧ b1 < W.heap.size ∧ b3 < W.heap.size ∧ b7 + 1 < W.heap.size ∧ b7 + 1 + 1 < W.heap.size) :
    W'.cell? ⟨b1, 0, none⟩ = some (.string ⟨#[100, 111, 99]⟩) ∧ W'.cell? ⟨b1, 1, none⟩ = some (.string ⟨#[114, 101, 97, 100, 109, 101]⟩) ∧ W'.cell? ⟨b1, 2, none⟩ = some (.string ⟨#[118, 105, 101, 119, 101, 114]⟩) ∧ W'.cell? ⟨b3, 0, none⟩ = some (.string ⟨#[117, 115, 101, 114]⟩) ∧ W'.cell? ⟨b3, 1, none⟩ = some (.string ⟨#[97, 110, 110, 97]⟩) ∧ W'.cell? ⟨b3, 2, none⟩ = some (.string ⟨#[]⟩) ∧ W'.cell? ⟨b7 + 1, 0, none⟩ = some (.string ⟨#[97]⟩) ∧ W'.cell? ⟨b7 + 1, 1, none⟩ = some (.string ⟨#[122]⟩) ∧ W'.cell? ⟨b7 + 1 + 1, 0, none⟩ = some (.string ⟨#[97, 48]⟩) ∧ W'.cell? ⟨b7 + 1 + 1, 1, none⟩ = some (.string ⟨#[97]⟩) ∧ b1 < W'.heap.size ∧ b3 < W'.heap.size ∧ b7 + 1 < W'.heap.size ∧ b7 + 1 + 1 < W'.heap.size := by
  obtain ⟨h0, h1, h2, h3, h4, h5, h6, h7, h8, h9, h10, h11, h12, h13⟩ := h
  have hz := hb.size
  exact ⟨(own_cells hb _ h10 _).1.trans h0, (own_cells hb _ h10 _).1.trans h1, (own_cells hb _ h10 _).1.trans h2, (own_cells hb _ h11 _).1.trans h3, (own_cells hb _ h11 _).1.trans h4, (own_cells hb _ h11 _).1.trans h5, (own_cells hb _ h12 _).1.trans h6, (own_cells hb _ h12 _).1.trans h7, (own_cells hb _ h13 _).1.trans h8, (own_cells hb _ h13 _).1.trans h9, Nat.lt_of_lt_of_le h10 hz, Nat.lt_of_lt_of_le h11 hz, Nat.lt_of_lt_of_le h12 hz, Nat.lt_of_lt_of_le h13 hz⟩

set_option maxRecDepth 100000 in
set_option maxHeartbeats 4000000 in
theorem lives_any (w : World) :
    Calls Try.prog 8 #[] w fun e w' => e = .returned (.bool true) ∧ Below w.heap.size w w' := by
  go_enter Try.func8, Try.ntmps8
  go_wp2_with fail
  refine (pc1 _).mono ?_
  rintro e w1 ⟨rfl, hw1⟩
  go_wp2_with fail
  refine (pc2 _).mono ?_
  rintro e w2 ⟨rfl, hw2⟩
  have hz2 : w1.heap.size < w2.heap.size := by have := hw2.size; simp at this; omega
  have own := own_cells hw2 w1.heap.size (by simp)
  have g20 : w2.cell? ⟨w1.heap.size, 0, none⟩ = some (.string ⟨#[100, 111, 99]⟩) := (own 0).1.trans (by go_simp)
  have g21 : w2.cell? ⟨w1.heap.size, 1, none⟩ = some (.string ⟨#[114, 101, 97, 100, 109, 101]⟩) := (own 1).1.trans (by go_simp)
  have g22 : w2.cell? ⟨w1.heap.size, 2, none⟩ = some (.string ⟨#[118, 105, 101, 119, 101, 114]⟩) := (own 2).1.trans (by go_simp)
  clear own
  go_wp2_with fail
  refine (pc3 _).mono ?_
  rintro e w3 ⟨rfl, hw3⟩
  have hz3 : w2.heap.size < w3.heap.size := by have := hw3.size; simp at this; omega
  have qa3 : w1.heap.size < w3.heap.size := by omega
  have own := own_cells hw3 w1.heap.size (by simp; omega)
  have g30 : w3.cell? ⟨w1.heap.size, 0, none⟩ = some (.string ⟨#[100, 111, 99]⟩) := (own 0).1.trans (by go_simp)
  have g31 : w3.cell? ⟨w1.heap.size, 1, none⟩ = some (.string ⟨#[114, 101, 97, 100, 109, 101]⟩) := (own 1).1.trans (by go_simp)
  have g32 : w3.cell? ⟨w1.heap.size, 2, none⟩ = some (.string ⟨#[118, 105, 101, 119, 101, 114]⟩) := (own 2).1.trans (by go_simp)
  clear own
  clear g20 g21 g22
  go_wp2_with fail
  refine (pc4 _).mono ?_
  rintro e w4 ⟨rfl, hw4⟩
  have hz4 : w3.heap.size < w4.heap.size := by have := hw4.size; simp at this; omega
  have qa4 : w1.heap.size < w4.heap.size := by omega
  have own := own_cells hw4 w1.heap.size (by simp; omega)
  have g40 : w4.cell? ⟨w1.heap.size, 0, none⟩ = some (.string ⟨#[100, 111, 99]⟩) := (own 0).1.trans (by go_simp)
  have g41 : w4.cell? ⟨w1.heap.size, 1, none⟩ = some (.string ⟨#[114, 101, 97, 100, 109, 101]⟩) := (own 1).1.trans (by go_simp)
  have g42 : w4.cell? ⟨w1.heap.size, 2, none⟩ = some (.string ⟨#[118, 105, 101, 119, 101, 114]⟩) := (own 2).1.trans (by go_simp)
  clear own
  have own := own_cells hw4 w3.heap.size (by simp)
  have s40 : w4.cell? ⟨w3.heap.size, 0, none⟩ = some (.string ⟨#[117, 115, 101, 114]⟩) := (own 0).1.trans (by go_simp)
  have s41 : w4.cell? ⟨w3.heap.size, 1, none⟩ = some (.string ⟨#[97, 110, 110, 97]⟩) := (own 1).1.trans (by go_simp)
  have s42 : w4.cell? ⟨w3.heap.size, 2, none⟩ = some (.string ⟨#[]⟩) := (own 2).1.trans (by go_simp)
  clear own
  clear g30 g31 g32
  go_wp2_with fail
  refine (pc5 _).mono ?_
  rintro e w5 ⟨rfl, hw5⟩
  have hz5 : w4.heap.size < w5.heap.size := by have := hw5.size; simp at this; omega
  have qa5 : w1.heap.size < w5.heap.size := by omega
  have qb5 : w3.heap.size < w5.heap.size := by omega
  have own := own_cells hw5 w1.heap.size (by simp; omega)
  have g50 : w5.cell? ⟨w1.heap.size, 0, none⟩ = some (.string ⟨#[100, 111, 99]⟩) := (own 0).1.trans (by go_simp)
  have g51 : w5.cell? ⟨w1.heap.size, 1, none⟩ = some (.string ⟨#[114, 101, 97, 100, 109, 101]⟩) := (own 1).1.trans (by go_simp)
  have g52 : w5.cell? ⟨w1.heap.size, 2, none⟩ = some (.string ⟨#[118, 105, 101, 119, 101, 114]⟩) := (own 2).1.trans (by go_simp)
  clear own
  have own := own_cells hw5 w3.heap.size (by simp; omega)
  have s50 : w5.cell? ⟨w3.heap.size, 0, none⟩ = some (.string ⟨#[117, 115, 101, 114]⟩) := (own 0).1.trans (by go_simp)
  have s51 : w5.cell? ⟨w3.heap.size, 1, none⟩ = some (.string ⟨#[97, 110, 110, 97]⟩) := (own 1).1.trans (by go_simp)
  have s52 : w5.cell? ⟨w3.heap.size, 2, none⟩ = some (.string ⟨#[]⟩) := (own 2).1.trans (by go_simp)
  clear own
  clear g40 g41 g42
  clear s40 s41 s42
  go_wp2_with fail
  refine (pc6 _).mono ?_
  rintro e w6 ⟨rfl, hw6⟩
  have hz6 : w5.heap.size < w6.heap.size := by have := hw6.size; simp at this; omega
  have qa6 : w1.heap.size < w6.heap.size := by omega
  have qb6 : w3.heap.size < w6.heap.size := by omega
  have own := own_cells hw6 w1.heap.size (by simp; omega)
  have g60 : w6.cell? ⟨w1.heap.size, 0, none⟩ = some (.string ⟨#[100, 111, 99]⟩) := (own 0).1.trans (by go_simp)
  have g61 : w6.cell? ⟨w1.heap.size, 1, none⟩ = some (.string ⟨#[114, 101, 97, 100, 109, 101]⟩) := (own 1).1.trans (by go_simp)
  have g62 : w6.cell? ⟨w1.heap.size, 2, none⟩ = some (.string ⟨#[118, 105, 101, 119, 101, 114]⟩) := (own 2).1.trans (by go_simp)
  clear own
  have own := own_cells hw6 w3.heap.size (by simp; omega)
  have s60 : w6.cell? ⟨w3.heap.size, 0, none⟩ = some (.string ⟨#[117, 115, 101, 114]⟩) := (own 0).1.trans (by go_simp)
  have s61 : w6.cell? ⟨w3.heap.size, 1, none⟩ = some (.string ⟨#[97, 110, 110, 97]⟩) := (own 1).1.trans (by go_simp)
  have s62 : w6.cell? ⟨w3.heap.size, 2, none⟩ = some (.string ⟨#[]⟩) := (own 2).1.trans (by go_simp)
  clear own
  clear g50 g51 g52
  clear s50 s51 s52
  go_wp2_with fail
  refine (pc7 _).mono ?_
  rintro e w7 ⟨rfl, hw7⟩
  have hz7 : w6.heap.size < w7.heap.size := by have := hw7.size; simp at this; omega
  have qa7 : w1.heap.size < w7.heap.size := by omega
  have qb7 : w3.heap.size < w7.heap.size := by omega
  have own := own_cells hw7 w1.heap.size (by simp; omega)
  have g70 : w7.cell? ⟨w1.heap.size, 0, none⟩ = some (.string ⟨#[100, 111, 99]⟩) := (own 0).1.trans (by go_simp)
  have g71 : w7.cell? ⟨w1.heap.size, 1, none⟩ = some (.string ⟨#[114, 101, 97, 100, 109, 101]⟩) := (own 1).1.trans (by go_simp)
  have g72 : w7.cell? ⟨w1.heap.size, 2, none⟩ = some (.string ⟨#[118, 105, 101, 119, 101, 114]⟩) := (own 2).1.trans (by go_simp)
  clear own
  have own := own_cells hw7 w3.heap.size (by simp; omega)
  have s70 : w7.cell? ⟨w3.heap.size, 0, none⟩ = some (.string ⟨#[117, 115, 101, 114]⟩) := (own 0).1.trans (by go_simp)
  have s71 : w7.cell? ⟨w3.heap.size, 1, none⟩ = some (.string ⟨#[97, 110, 110, 97]⟩) := (own 1).1.trans (by go_simp)
  have s72 : w7.cell? ⟨w3.heap.size, 2, none⟩ = some (.string ⟨#[]⟩) := (own 2).1.trans (by go_simp)
  clear own
  clear g60 g61 g62
  clear s60 s61 s62
  go_wp2_with (first | (go_at_call 9; refine (c_yes _ _ (by decide) (by decide +kernel)).mono ?_; rintro e w' ⟨rfl, rfl⟩) | (go_at_call 9; refine (c_no _ _ (by decide) (by decide +kernel)).mono ?_; rintro e w' ⟨rfl, rfl⟩))

  have k1 : w1.heap.size < w7.heap.size + 1 := by omega
  have k2 : w1.heap.size < w7.heap.size + 1 + 1 := by omega
  have k3 : w3.heap.size < w7.heap.size + 1 := by omega
  have k4 : w3.heap.size < w7.heap.size + 1 + 1 := by omega
  have f00 : (((w7.alloc (.cells #[.string ⟨#[]⟩, .string ⟨#[]⟩, .string ⟨#[]⟩] 29)).alloc (.cells #[.string ⟨#[97]⟩, .string ⟨#[122]⟩] 26)).alloc (.cells #[.string ⟨#[97, 48]⟩, .string ⟨#[97]⟩] 26)).cell? ⟨w1.heap.size, 0, none⟩ = some (.string ⟨#[100, 111, 99]⟩) := by go_simp
  have f01 : (((w7.alloc (.cells #[.string ⟨#[]⟩, .string ⟨#[]⟩, .string ⟨#[]⟩] 29)).alloc (.cells #[.string ⟨#[97]⟩, .string ⟨#[122]⟩] 26)).alloc (.cells #[.string ⟨#[97, 48]⟩, .string ⟨#[97]⟩] 26)).cell? ⟨w1.heap.size, 1, none⟩ = some (.string ⟨#[114, 101, 97, 100, 109, 101]⟩) := by go_simp
  have f02 : (((w7.alloc (.cells #[.string ⟨#[]⟩, .string ⟨#[]⟩, .string ⟨#[]⟩] 29)).alloc (.cells #[.string ⟨#[97]⟩, .string ⟨#[122]⟩] 26)).alloc (.cells #[.string ⟨#[97, 48]⟩, .string ⟨#[97]⟩] 26)).cell? ⟨w1.heap.size, 2, none⟩ = some (.string ⟨#[118, 105, 101, 119, 101, 114]⟩) := by go_simp
  have f10 : (((w7.alloc (.cells #[.string ⟨#[]⟩, .string ⟨#[]⟩, .string ⟨#[]⟩] 29)).alloc (.cells #[.string ⟨#[97]⟩, .string ⟨#[122]⟩] 26)).alloc (.cells #[.string ⟨#[97, 48]⟩, .string ⟨#[97]⟩] 26)).cell? ⟨w3.heap.size, 0, none⟩ = some (.string ⟨#[117, 115, 101, 114]⟩) := by go_simp
  have f11 : (((w7.alloc (.cells #[.string ⟨#[]⟩, .string ⟨#[]⟩, .string ⟨#[]⟩] 29)).alloc (.cells #[.string ⟨#[97]⟩, .string ⟨#[122]⟩] 26)).alloc (.cells #[.string ⟨#[97, 48]⟩, .string ⟨#[97]⟩] 26)).cell? ⟨w3.heap.size, 1, none⟩ = some (.string ⟨#[97, 110, 110, 97]⟩) := by go_simp
  have f12 : (((w7.alloc (.cells #[.string ⟨#[]⟩, .string ⟨#[]⟩, .string ⟨#[]⟩] 29)).alloc (.cells #[.string ⟨#[97]⟩, .string ⟨#[122]⟩] 26)).alloc (.cells #[.string ⟨#[97, 48]⟩, .string ⟨#[97]⟩] 26)).cell? ⟨w3.heap.size, 2, none⟩ = some (.string ⟨#[]⟩) := by go_simp
  have f20 : (((w7.alloc (.cells #[.string ⟨#[]⟩, .string ⟨#[]⟩, .string ⟨#[]⟩] 29)).alloc (.cells #[.string ⟨#[97]⟩, .string ⟨#[122]⟩] 26)).alloc (.cells #[.string ⟨#[97, 48]⟩, .string ⟨#[97]⟩] 26)).cell? ⟨w7.heap.size + 1, 0, none⟩ = some (.string ⟨#[97]⟩) := by go_simp
  have f21 : (((w7.alloc (.cells #[.string ⟨#[]⟩, .string ⟨#[]⟩, .string ⟨#[]⟩] 29)).alloc (.cells #[.string ⟨#[97]⟩, .string ⟨#[122]⟩] 26)).alloc (.cells #[.string ⟨#[97, 48]⟩, .string ⟨#[97]⟩] 26)).cell? ⟨w7.heap.size + 1, 1, none⟩ = some (.string ⟨#[122]⟩) := by go_simp
  have f30 : (((w7.alloc (.cells #[.string ⟨#[]⟩, .string ⟨#[]⟩, .string ⟨#[]⟩] 29)).alloc (.cells #[.string ⟨#[97]⟩, .string ⟨#[122]⟩] 26)).alloc (.cells #[.string ⟨#[97, 48]⟩, .string ⟨#[97]⟩] 26)).cell? ⟨w7.heap.size + 1 + 1, 0, none⟩ = some (.string ⟨#[97, 48]⟩) := by go_simp
  have f31 : (((w7.alloc (.cells #[.string ⟨#[]⟩, .string ⟨#[]⟩, .string ⟨#[]⟩] 29)).alloc (.cells #[.string ⟨#[97]⟩, .string ⟨#[122]⟩] 26)).alloc (.cells #[.string ⟨#[97, 48]⟩, .string ⟨#[97]⟩] 26)).cell? ⟨w7.heap.size + 1 + 1, 1, none⟩ = some (.string ⟨#[97]⟩) := by go_simp
  have f9 : w7.heap.size + 1 + 1 < (((w7.alloc (.cells #[.string ⟨#[]⟩, .string ⟨#[]⟩, .string ⟨#[]⟩] 29)).alloc (.cells #[.string ⟨#[97]⟩, .string ⟨#[122]⟩] 26)).alloc (.cells #[.string ⟨#[97, 48]⟩, .string ⟨#[97]⟩] 26)).heap.size := by simp
  have hB : Below w.heap.size w (((w7.alloc (.cells #[.string ⟨#[]⟩, .string ⟨#[]⟩, .string ⟨#[]⟩] 29)).alloc (.cells #[.string ⟨#[97]⟩, .string ⟨#[122]⟩] 26)).alloc (.cells #[.string ⟨#[97, 48]⟩, .string ⟨#[97]⟩] 26)) := g_alloc (g_alloc (g_alloc (g_trans (g_alloc (g_trans (g_alloc (g_trans (g_alloc (g_trans (g_alloc (g_trans (g_alloc (g_trans (g_alloc hw1 _) hw2) _) hw3) _) hw4) _) hw5) _) hw6) _) hw7) _) _) _
  generalize (((w7.alloc (.cells #[.string ⟨#[]⟩, .string ⟨#[]⟩, .string ⟨#[]⟩] 29)).alloc (.cells #[.string ⟨#[97]⟩, .string ⟨#[122]⟩] 26)).alloc (.cells #[.string ⟨#[97, 48]⟩, .string ⟨#[97]⟩] 26)) = W at *
  have y0 : w1.heap.size < W.heap.size := by omega
  have y1 : w3.heap.size < W.heap.size := by omega
  have y2 : w7.heap.size + 1 < W.heap.size := by omega
  have hS : W.cell? ⟨w1.heap.size, 0, none⟩ = some (.string ⟨#[100, 111, 99]⟩) ∧ W.cell? ⟨w1.heap.size, 1, none⟩ = some (.string ⟨#[114, 101, 97, 100, 109, 101]⟩) ∧ W.cell? ⟨w1.heap.size, 2, none⟩ = some (.string ⟨#[118, 105, 101, 119, 101, 114]⟩) ∧ W.cell? ⟨w3.heap.size, 0, none⟩ = some (.string ⟨#[117, 115, 101, 114]⟩) ∧ W.cell? ⟨w3.heap.size, 1, none⟩ = some (.string ⟨#[97, 110, 110, 97]⟩) ∧ W.cell? ⟨w3.heap.size, 2, none⟩ = some (.string ⟨#[]⟩) ∧ W.cell? ⟨w7.heap.size + 1, 0, none⟩ = some (.string ⟨#[97]⟩) ∧ W.cell? ⟨w7.heap.size + 1, 1, none⟩ = some (.string ⟨#[122]⟩) ∧ W.cell? ⟨w7.heap.size + 1 + 1, 0, none⟩ = some (.string ⟨#[97, 48]⟩) ∧ W.cell? ⟨w7.heap.size + 1 + 1, 1, none⟩ = some (.string ⟨#[97]⟩) ∧ w1.heap.size < W.heap.size ∧ w3.heap.size < W.heap.size ∧ w7.heap.size + 1 < W.heap.size ∧ w7.heap.size + 1 + 1 < W.heap.size := ⟨f00, f01, f02, f10, f11, f12, f20, f21, f30, f31, y0, y1, y2, f9⟩
  clear f00 f01 f02 f10 f11 f12 f20 f21 f30 f31 y0 y1 y2 f9 k1 k2 k3 k4 hz2 hz3 hz4 hz5 hz6 hz7 qa3 qa4 qa5 qa6 qa7 qb5 qb6 qb7 g70 g71 g72 s70 s71 s72 hw1 hw2 hw3 hw4 hw5 hw6 hw7
  generalize w1.heap.size = b1 at *
  generalize w3.heap.size = b3 at *
  generalize w7.heap.size = b7 at *
  go_region_held3 (fun w' => w'.cell? ⟨b1, 0, none⟩ = some (.string ⟨#[100, 111, 99]⟩) ∧ w'.cell? ⟨b1, 1, none⟩ = some (.string ⟨#[114, 101, 97, 100, 109, 101]⟩) ∧ w'.cell? ⟨b1, 2, none⟩ = some (.string ⟨#[118, 105, 101, 119, 101, 114]⟩) ∧ w'.cell? ⟨b3, 0, none⟩ = some (.string ⟨#[117, 115, 101, 114]⟩) ∧ w'.cell? ⟨b3, 1, none⟩ = some (.string ⟨#[97, 110, 110, 97]⟩) ∧ w'.cell? ⟨b3, 2, none⟩ = some (.string ⟨#[]⟩) ∧ w'.cell? ⟨b7 + 1, 0, none⟩ = some (.string ⟨#[97]⟩) ∧ w'.cell? ⟨b7 + 1, 1, none⟩ = some (.string ⟨#[122]⟩) ∧ w'.cell? ⟨b7 + 1 + 1, 0, none⟩ = some (.string ⟨#[97, 48]⟩) ∧ w'.cell? ⟨b7 + 1 + 1, 1, none⟩ = some (.string ⟨#[97]⟩) ∧ b1 < w'.heap.size ∧ b3 < w'.heap.size ∧ b7 + 1 < w'.heap.size ∧ b7 + 1 + 1 < w'.heap.size) (first | assumption | exact live_keep (by assumption) (by assumption))
    (first | (go_at_call 19; refine (gtext_live _).mono ?_; rintro e w' ⟨rfl, hv1⟩) | (go_at_call 30; refine (compare_live _).mono ?_; rintro e w' ⟨rfl, hv2⟩) | (go_at_call 17; refine (text_live1 _).mono ?_; rintro e w' ⟨rfl, hv3⟩) | (go_at_call 17; refine (text_live2 _).mono ?_; rintro e w' ⟨rfl, hv4⟩))
  go_wp2
  go_ret
  exact ⟨rfl, g_trans (g_trans (g_trans (g_trans (g_drew hB) hv1) hv2) hv3) hv4⟩

end Go.Proofs.Ytickinkabcfkbaa
