/-
  NamesBack returns true: the walk at valid subjects.
-/
import Derived.Test.YtickinkabcfkbaaLBack
namespace Go.Proofs.Ytickinkabcfkbaa
open Go.RowKit

theorem keep_xy {a b c d e f : ByteArray} {x y : Nat} {W W' : World} (hb : Below W.heap.size W W') (h : W.cell? ⟨x, 0, none⟩ = some (.string a) ∧ W.cell? ⟨x, 1, none⟩ = some (.string b) ∧ W.cell? ⟨x, 2, none⟩ = some (.string c) ∧ W.cell? ⟨y, 0, none⟩ = some (.string d) ∧ W.cell? ⟨y, 1, none⟩ = some (.string e) ∧ W.cell? ⟨y, 2, none⟩ = some (.string f) ∧ x < W.heap.size ∧ y < W.heap.size) :
    W'.cell? ⟨x, 0, none⟩ = some (.string a) ∧ W'.cell? ⟨x, 1, none⟩ = some (.string b) ∧ W'.cell? ⟨x, 2, none⟩ = some (.string c) ∧ W'.cell? ⟨y, 0, none⟩ = some (.string d) ∧ W'.cell? ⟨y, 1, none⟩ = some (.string e) ∧ W'.cell? ⟨y, 2, none⟩ = some (.string f) ∧ x < W'.heap.size ∧ y < W'.heap.size := by
  obtain ⟨h0, h1, h2, h3, h4, h5, h6, h7⟩ := h
  have hz := hb.size
  exact ⟨(own_cells hb _ h6 _).1.trans h0, (own_cells hb _ h6 _).1.trans h1, (own_cells hb _ h6 _).1.trans h2, (own_cells hb _ h7 _).1.trans h3, (own_cells hb _ h7 _).1.trans h4, (own_cells hb _ h7 _).1.trans h5, Nat.lt_of_lt_of_le h6 hz, Nat.lt_of_lt_of_le h7 hz⟩
theorem keep_xyu {a b c d e f : ByteArray} {x y u : Nat} {W W' : World} (hb : Below W.heap.size W W') (h : W.cell? ⟨x, 0, none⟩ = some (.string a) ∧ W.cell? ⟨x, 1, none⟩ = some (.string b) ∧ W.cell? ⟨x, 2, none⟩ = some (.string c) ∧ W.cell? ⟨y, 0, none⟩ = some (.string d) ∧ W.cell? ⟨y, 1, none⟩ = some (.string e) ∧ W.cell? ⟨y, 2, none⟩ = some (.string f) ∧ W.cell? ⟨u, 0, none⟩ = some (.string a) ∧ W.cell? ⟨u, 1, none⟩ = some (.string b) ∧ W.cell? ⟨u, 2, none⟩ = some (.string c) ∧ x < W.heap.size ∧ y < W.heap.size ∧ u < W.heap.size) :
    W'.cell? ⟨x, 0, none⟩ = some (.string a) ∧ W'.cell? ⟨x, 1, none⟩ = some (.string b) ∧ W'.cell? ⟨x, 2, none⟩ = some (.string c) ∧ W'.cell? ⟨y, 0, none⟩ = some (.string d) ∧ W'.cell? ⟨y, 1, none⟩ = some (.string e) ∧ W'.cell? ⟨y, 2, none⟩ = some (.string f) ∧ W'.cell? ⟨u, 0, none⟩ = some (.string a) ∧ W'.cell? ⟨u, 1, none⟩ = some (.string b) ∧ W'.cell? ⟨u, 2, none⟩ = some (.string c) ∧ x < W'.heap.size ∧ y < W'.heap.size ∧ u < W'.heap.size := by
  obtain ⟨h0, h1, h2, h3, h4, h5, h6, h7, h8, h9, h10, h11⟩ := h
  have hz := hb.size
  exact ⟨(own_cells hb _ h9 _).1.trans h0, (own_cells hb _ h9 _).1.trans h1, (own_cells hb _ h9 _).1.trans h2, (own_cells hb _ h10 _).1.trans h3, (own_cells hb _ h10 _).1.trans h4, (own_cells hb _ h10 _).1.trans h5, (own_cells hb _ h11 _).1.trans h6, (own_cells hb _ h11 _).1.trans h7, (own_cells hb _ h11 _).1.trans h8, Nat.lt_of_lt_of_le h9 hz, Nat.lt_of_lt_of_le h10 hz, Nat.lt_of_lt_of_le h11 hz⟩
theorem keep_xg {a b c : ByteArray} {x g : Nat} {W W' : World} (hb : Below W.heap.size W W') (h : W.cell? ⟨x, 0, none⟩ = some (.string a) ∧ W.cell? ⟨x, 1, none⟩ = some (.string b) ∧ W.cell? ⟨x, 2, none⟩ = some (.string c) ∧ W.cell? ⟨g, 0, none⟩ = some (.string a) ∧ W.cell? ⟨g, 1, none⟩ = some (.string b) ∧ W.cell? ⟨g, 2, none⟩ = some (.string c) ∧ x < W.heap.size ∧ g < W.heap.size) :
    W'.cell? ⟨x, 0, none⟩ = some (.string a) ∧ W'.cell? ⟨x, 1, none⟩ = some (.string b) ∧ W'.cell? ⟨x, 2, none⟩ = some (.string c) ∧ W'.cell? ⟨g, 0, none⟩ = some (.string a) ∧ W'.cell? ⟨g, 1, none⟩ = some (.string b) ∧ W'.cell? ⟨g, 2, none⟩ = some (.string c) ∧ x < W'.heap.size ∧ g < W'.heap.size := by
  obtain ⟨h0, h1, h2, h3, h4, h5, h6, h7⟩ := h
  have hz := hb.size
  exact ⟨(own_cells hb _ h6 _).1.trans h0, (own_cells hb _ h6 _).1.trans h1, (own_cells hb _ h6 _).1.trans h2, (own_cells hb _ h7 _).1.trans h3, (own_cells hb _ h7 _).1.trans h4, (own_cells hb _ h7 _).1.trans h5, Nat.lt_of_lt_of_le h6 hz, Nat.lt_of_lt_of_le h7 hz⟩

set_option maxRecDepth 100000 in
set_option maxHeartbeats 8000000 in
theorem back_main_walk (a b c d e f : ByteArray) (w : World) (ha : a.size ≤ 40) (hb : b.size ≤ 40) (hc : c.size ≤ 40) (hd : d.size ≤ 40) (he : e.size ≤ 40) (hf : f.size ≤ 40) (h : okSub a b c = true) (k : okSub d e f = true) :
    Calls Try.prog 4 #[.agg #[.string a, .string b, .string c], .agg #[.string d, .string e, .string f]] w fun r w' => r = .returned (.bool true) ∧ Below w.heap.size w w' := by
  have H : Hid ([a, b, c, d, e, f].all sh = true) := by simp [Hid, sh, ha, hb, hc, hd, he, hf]
  have la : Hid (∀ s : ByteArray, s.size ≤ 40 → s.size ≤ maxLen) := fun s h => Nat.le_trans h (by decide)
  have HX := hid h; clear h
  have HY := hid k; clear k
  go_enter Try.func4, Try.ntmps4
  go_wp2_with fail
  refine (short6 a b c d e f true _ _ (la.out _ ha) (la.out _ hb) (la.out _ hc) (la.out _ hd) (la.out _ he) (la.out _ hf) (by go_simp) (by go_simp) (by go_simp) (by go_simp) (by go_simp) (by go_simp) H.out).mono ?_
  rintro r w' ⟨rfl, rfl⟩
  clear H la
  go_upto_region 5 with fail
  have hS : (((((w.alloc (.cells #[.string a, .string b, .string c] 43)).alloc (.cells #[.string d, .string e, .string f] 43)).alloc (.cells #[.string a, .string b, .string c, .string d, .string e, .string f] 9)).alloc (.cells #[.string a, .string b, .string c] 29)).alloc (.cells #[.string d, .string e, .string f] 29)).cell? ⟨w.heap.size + 1 + 1 + 1, 0, none⟩ = some (.string a) ∧ (((((w.alloc (.cells #[.string a, .string b, .string c] 43)).alloc (.cells #[.string d, .string e, .string f] 43)).alloc (.cells #[.string a, .string b, .string c, .string d, .string e, .string f] 9)).alloc (.cells #[.string a, .string b, .string c] 29)).alloc (.cells #[.string d, .string e, .string f] 29)).cell? ⟨w.heap.size + 1 + 1 + 1, 1, none⟩ = some (.string b) ∧ (((((w.alloc (.cells #[.string a, .string b, .string c] 43)).alloc (.cells #[.string d, .string e, .string f] 43)).alloc (.cells #[.string a, .string b, .string c, .string d, .string e, .string f] 9)).alloc (.cells #[.string a, .string b, .string c] 29)).alloc (.cells #[.string d, .string e, .string f] 29)).cell? ⟨w.heap.size + 1 + 1 + 1, 2, none⟩ = some (.string c) ∧ (((((w.alloc (.cells #[.string a, .string b, .string c] 43)).alloc (.cells #[.string d, .string e, .string f] 43)).alloc (.cells #[.string a, .string b, .string c, .string d, .string e, .string f] 9)).alloc (.cells #[.string a, .string b, .string c] 29)).alloc (.cells #[.string d, .string e, .string f] 29)).cell? ⟨w.heap.size + 1 + 1 + 1 + 1, 0, none⟩ = some (.string d) ∧ (((((w.alloc (.cells #[.string a, .string b, .string c] 43)).alloc (.cells #[.string d, .string e, .string f] 43)).alloc (.cells #[.string a, .string b, .string c, .string d, .string e, .string f] 9)).alloc (.cells #[.string a, .string b, .string c] 29)).alloc (.cells #[.string d, .string e, .string f] 29)).cell? ⟨w.heap.size + 1 + 1 + 1 + 1, 1, none⟩ = some (.string e) ∧ (((((w.alloc (.cells #[.string a, .string b, .string c] 43)).alloc (.cells #[.string d, .string e, .string f] 43)).alloc (.cells #[.string a, .string b, .string c, .string d, .string e, .string f] 9)).alloc (.cells #[.string a, .string b, .string c] 29)).alloc (.cells #[.string d, .string e, .string f] 29)).cell? ⟨w.heap.size + 1 + 1 + 1 + 1, 2, none⟩ = some (.string f) ∧ w.heap.size + 1 + 1 + 1 < (((((w.alloc (.cells #[.string a, .string b, .string c] 43)).alloc (.cells #[.string d, .string e, .string f] 43)).alloc (.cells #[.string a, .string b, .string c, .string d, .string e, .string f] 9)).alloc (.cells #[.string a, .string b, .string c] 29)).alloc (.cells #[.string d, .string e, .string f] 29)).heap.size ∧ w.heap.size + 1 + 1 + 1 + 1 < (((((w.alloc (.cells #[.string a, .string b, .string c] 43)).alloc (.cells #[.string d, .string e, .string f] 43)).alloc (.cells #[.string a, .string b, .string c, .string d, .string e, .string f] 9)).alloc (.cells #[.string a, .string b, .string c] 29)).alloc (.cells #[.string d, .string e, .string f] 29)).heap.size := ⟨by go_simp, by go_simp, by go_simp, by go_simp, by go_simp, by go_simp, by simp, by simp⟩
  have hB : Below w.heap.size w (((((w.alloc (.cells #[.string a, .string b, .string c] 43)).alloc (.cells #[.string d, .string e, .string f] 43)).alloc (.cells #[.string a, .string b, .string c, .string d, .string e, .string f] 9)).alloc (.cells #[.string a, .string b, .string c] 29)).alloc (.cells #[.string d, .string e, .string f] 29)) := g_alloc (g_alloc (g_alloc (g_alloc (g_alloc g_refl _) _) _) _) _
  generalize (((((w.alloc (.cells #[.string a, .string b, .string c] 43)).alloc (.cells #[.string d, .string e, .string f] 43)).alloc (.cells #[.string a, .string b, .string c, .string d, .string e, .string f] 9)).alloc (.cells #[.string a, .string b, .string c] 29)).alloc (.cells #[.string d, .string e, .string f] 29)) = W at *
  generalize w.heap.size + 1 + 1 + 1 = x at *
  have hxy : x + 1 = x + 1 := rfl
  generalize x + 1 = y at *
  clear hxy
  go_wp2_with fail
  refine (rsub_yes a b c _ ha hb hc HX.out).mono ?_
  rintro r w1 ⟨rfl, hw1⟩
  replace hS := keep_xy hw1 hS
  replace hB := g_trans hB hw1
  clear hw1
  go_wp2_with fail
  refine (rsub_yes d e f _ hd he hf HY.out).mono ?_
  rintro r w2 ⟨rfl, hw2⟩
  replace hS := keep_xy hw2 hS
  replace hB := g_trans hB hw2
  clear hw2
  go_wp2_with fail
  refine (stext_any a b c _ ha hb hc).mono ?_
  rintro r w3 ⟨rfl, hw3⟩
  replace hS := keep_xy hw3 hS
  replace hB := g_trans hB hw3
  clear hw3
  go_wp2_with fail
  refine (back_sub a b c _ ha hb hc HX.out).mono ?_
  rintro r w4 ⟨rfl, hw4⟩
  replace hS := keep_xy hw4 hS
  replace hB := g_trans hB hw4
  clear hw4
  go_upto_region 8 with fail
  have hS2 : (w4.alloc (.cells #[.string a, .string b, .string c] 29)).cell? ⟨x, 0, none⟩ = some (.string a) ∧ (w4.alloc (.cells #[.string a, .string b, .string c] 29)).cell? ⟨x, 1, none⟩ = some (.string b) ∧ (w4.alloc (.cells #[.string a, .string b, .string c] 29)).cell? ⟨x, 2, none⟩ = some (.string c) ∧ (w4.alloc (.cells #[.string a, .string b, .string c] 29)).cell? ⟨y, 0, none⟩ = some (.string d) ∧ (w4.alloc (.cells #[.string a, .string b, .string c] 29)).cell? ⟨y, 1, none⟩ = some (.string e) ∧ (w4.alloc (.cells #[.string a, .string b, .string c] 29)).cell? ⟨y, 2, none⟩ = some (.string f) ∧ (w4.alloc (.cells #[.string a, .string b, .string c] 29)).cell? ⟨w4.heap.size, 0, none⟩ = some (.string a) ∧ (w4.alloc (.cells #[.string a, .string b, .string c] 29)).cell? ⟨w4.heap.size, 1, none⟩ = some (.string b) ∧ (w4.alloc (.cells #[.string a, .string b, .string c] 29)).cell? ⟨w4.heap.size, 2, none⟩ = some (.string c) ∧ x < (w4.alloc (.cells #[.string a, .string b, .string c] 29)).heap.size ∧ y < (w4.alloc (.cells #[.string a, .string b, .string c] 29)).heap.size ∧ w4.heap.size < (w4.alloc (.cells #[.string a, .string b, .string c] 29)).heap.size := ⟨by go_simp, by go_simp, by go_simp, by go_simp, by go_simp, by go_simp, by go_simp, by go_simp, by go_simp, by simp; omega, by simp; omega, by simp⟩
  have hB2 : Below w.heap.size w (w4.alloc (.cells #[.string a, .string b, .string c] 29)) := g_alloc hB _
  clear hS hB
  generalize (w4.alloc (.cells #[.string a, .string b, .string c] 29)) = W5 at *
  generalize w4.heap.size = u at *
  obtain ⟨ok1, ok2, ok3⟩ := ok_parts HY.out
  have OK1 := hid ok1; clear ok1
  have OK2 := hid ok2; clear ok2
  clear ok3
  go_wp2_with fail
  refine (text_any d e _ hd he).mono ?_
  rintro r w5 ⟨rfl, hw5⟩
  replace hS2 := keep_xyu hw5 hS2
  replace hB2 := g_trans hB2 hw5
  clear hw5
  go_wp2_with fail
  refine (back_obj d e _ hd he OK1.out OK2.out).mono ?_
  rintro r w6 ⟨rfl, hw6⟩
  replace hS2 := keep_xyu hw6 hS2
  replace hB2 := g_trans hB2 hw6
  clear hw6
  go_upto_region 9 with fail
  have hS : (w6.alloc (.cells #[.string d, .string e] 26)).cell? ⟨x, 0, none⟩ = some (.string a) ∧ (w6.alloc (.cells #[.string d, .string e] 26)).cell? ⟨x, 1, none⟩ = some (.string b) ∧ (w6.alloc (.cells #[.string d, .string e] 26)).cell? ⟨x, 2, none⟩ = some (.string c) ∧ (w6.alloc (.cells #[.string d, .string e] 26)).cell? ⟨y, 0, none⟩ = some (.string d) ∧ (w6.alloc (.cells #[.string d, .string e] 26)).cell? ⟨y, 1, none⟩ = some (.string e) ∧ (w6.alloc (.cells #[.string d, .string e] 26)).cell? ⟨y, 2, none⟩ = some (.string f) ∧ (w6.alloc (.cells #[.string d, .string e] 26)).cell? ⟨u, 0, none⟩ = some (.string a) ∧ (w6.alloc (.cells #[.string d, .string e] 26)).cell? ⟨u, 1, none⟩ = some (.string b) ∧ (w6.alloc (.cells #[.string d, .string e] 26)).cell? ⟨u, 2, none⟩ = some (.string c) ∧ (w6.alloc (.cells #[.string d, .string e] 26)).cell? ⟨w6.heap.size, 0, none⟩ = some (.string d) ∧ (w6.alloc (.cells #[.string d, .string e] 26)).cell? ⟨w6.heap.size, 1, none⟩ = some (.string e) ∧ x < (w6.alloc (.cells #[.string d, .string e] 26)).heap.size ∧ y < (w6.alloc (.cells #[.string d, .string e] 26)).heap.size ∧ u < (w6.alloc (.cells #[.string d, .string e] 26)).heap.size ∧ w6.heap.size < (w6.alloc (.cells #[.string d, .string e] 26)).heap.size := ⟨by go_simp, by go_simp, by go_simp, by go_simp, by go_simp, by go_simp, by go_simp, by go_simp, by go_simp, by go_simp, by go_simp, by simp; omega, by simp; omega, by simp; omega, by simp⟩
  have hB : Below w.heap.size w (w6.alloc (.cells #[.string d, .string e] 26)) := g_alloc hB2 _
  clear hS2 hB2
  generalize (w6.alloc (.cells #[.string d, .string e] 26)) = W7 at *
  generalize w6.heap.size = o at *
  go_cut [93] (fun s93 wx => s93 = .bool false ∧ (wx.cell? ⟨x, 0, none⟩ = some (.string a) ∧ wx.cell? ⟨x, 1, none⟩ = some (.string b) ∧ wx.cell? ⟨x, 2, none⟩ = some (.string c) ∧ wx.cell? ⟨y, 0, none⟩ = some (.string d) ∧ wx.cell? ⟨y, 1, none⟩ = some (.string e) ∧ wx.cell? ⟨y, 2, none⟩ = some (.string f) ∧ wx.cell? ⟨u, 0, none⟩ = some (.string a) ∧ wx.cell? ⟨u, 1, none⟩ = some (.string b) ∧ wx.cell? ⟨u, 2, none⟩ = some (.string c) ∧ wx.cell? ⟨o, 0, none⟩ = some (.string d) ∧ wx.cell? ⟨o, 1, none⟩ = some (.string e) ∧ x < wx.heap.size ∧ y < wx.heap.size ∧ u < wx.heap.size ∧ o < wx.heap.size) ∧ Below w.heap.size w wx)
  case first =>
    by_cases e1 : a = d
    · subst e1
      by_cases e2 : b = e
      · subst e2
        by_cases e3 : c = f
        · subst e3
          go_region_held3 (fun w' => w'.cell? ⟨x, 0, none⟩ = some (.string a) ∧ w'.cell? ⟨x, 1, none⟩ = some (.string b) ∧ w'.cell? ⟨x, 2, none⟩ = some (.string c) ∧ w'.cell? ⟨y, 0, none⟩ = some (.string a) ∧ w'.cell? ⟨y, 1, none⟩ = some (.string b) ∧ w'.cell? ⟨y, 2, none⟩ = some (.string c) ∧ w'.cell? ⟨u, 0, none⟩ = some (.string a) ∧ w'.cell? ⟨u, 1, none⟩ = some (.string b) ∧ w'.cell? ⟨u, 2, none⟩ = some (.string c) ∧ w'.cell? ⟨o, 0, none⟩ = some (.string a) ∧ w'.cell? ⟨o, 1, none⟩ = some (.string b) ∧ x < w'.heap.size ∧ y < w'.heap.size ∧ u < w'.heap.size ∧ o < w'.heap.size) (first | assumption | exact back_keep (by assumption) (by assumption))
            (first | (go_at_call 21; refine (stext_any _ _ _ _ (by assumption) (by assumption) (by assumption)).mono ?_; rintro r w' ⟨rfl, hv1⟩))
          go_wp2
          go_meet
          exact ⟨rfl, by assumption, g_trans (g_trans (g_drew hB) (by assumption)) (by assumption)⟩
        · have q1 := toList_ne e3
          have q2 := toList_ne (fun q => e3 (stxt_inj HX.out HY.out q).2.2)
          clear e3
          go_region_held3 (fun w' => w'.cell? ⟨x, 0, none⟩ = some (.string a) ∧ w'.cell? ⟨x, 1, none⟩ = some (.string b) ∧ w'.cell? ⟨x, 2, none⟩ = some (.string c) ∧ w'.cell? ⟨y, 0, none⟩ = some (.string a) ∧ w'.cell? ⟨y, 1, none⟩ = some (.string b) ∧ w'.cell? ⟨y, 2, none⟩ = some (.string f) ∧ w'.cell? ⟨u, 0, none⟩ = some (.string a) ∧ w'.cell? ⟨u, 1, none⟩ = some (.string b) ∧ w'.cell? ⟨u, 2, none⟩ = some (.string c) ∧ w'.cell? ⟨o, 0, none⟩ = some (.string a) ∧ w'.cell? ⟨o, 1, none⟩ = some (.string b) ∧ x < w'.heap.size ∧ y < w'.heap.size ∧ u < w'.heap.size ∧ o < w'.heap.size) (first | assumption | exact back_keep (by assumption) (by assumption))
            (first | (go_at_call 21; refine (stext_any _ _ _ _ (by assumption) (by assumption) (by assumption)).mono ?_; rintro r w' ⟨rfl, hv1⟩))
          go_wp2
          go_meet
          exact ⟨rfl, by assumption, g_trans (g_trans (g_drew hB) (by assumption)) (by assumption)⟩
      · have q1 := toList_ne e2
        have q2 := toList_ne (fun q => e2 (stxt_inj HX.out HY.out q).2.1)
        clear e2
        go_region_held3 (fun w' => w'.cell? ⟨x, 0, none⟩ = some (.string a) ∧ w'.cell? ⟨x, 1, none⟩ = some (.string b) ∧ w'.cell? ⟨x, 2, none⟩ = some (.string c) ∧ w'.cell? ⟨y, 0, none⟩ = some (.string a) ∧ w'.cell? ⟨y, 1, none⟩ = some (.string e) ∧ w'.cell? ⟨y, 2, none⟩ = some (.string f) ∧ w'.cell? ⟨u, 0, none⟩ = some (.string a) ∧ w'.cell? ⟨u, 1, none⟩ = some (.string b) ∧ w'.cell? ⟨u, 2, none⟩ = some (.string c) ∧ w'.cell? ⟨o, 0, none⟩ = some (.string a) ∧ w'.cell? ⟨o, 1, none⟩ = some (.string e) ∧ x < w'.heap.size ∧ y < w'.heap.size ∧ u < w'.heap.size ∧ o < w'.heap.size) (first | assumption | exact back_keep (by assumption) (by assumption))
          (first | (go_at_call 21; refine (stext_any _ _ _ _ (by assumption) (by assumption) (by assumption)).mono ?_; rintro r w' ⟨rfl, hv1⟩))
        go_wp2
        go_meet
        exact ⟨rfl, by assumption, g_trans (g_trans (g_drew hB) (by assumption)) (by assumption)⟩
    · have q1 := toList_ne e1
      have q2 := toList_ne (fun q => e1 (stxt_inj HX.out HY.out q).1)
      clear e1
      go_region_held3 (fun w' => w'.cell? ⟨x, 0, none⟩ = some (.string a) ∧ w'.cell? ⟨x, 1, none⟩ = some (.string b) ∧ w'.cell? ⟨x, 2, none⟩ = some (.string c) ∧ w'.cell? ⟨y, 0, none⟩ = some (.string d) ∧ w'.cell? ⟨y, 1, none⟩ = some (.string e) ∧ w'.cell? ⟨y, 2, none⟩ = some (.string f) ∧ w'.cell? ⟨u, 0, none⟩ = some (.string a) ∧ w'.cell? ⟨u, 1, none⟩ = some (.string b) ∧ w'.cell? ⟨u, 2, none⟩ = some (.string c) ∧ w'.cell? ⟨o, 0, none⟩ = some (.string d) ∧ w'.cell? ⟨o, 1, none⟩ = some (.string e) ∧ x < w'.heap.size ∧ y < w'.heap.size ∧ u < w'.heap.size ∧ o < w'.heap.size) (first | assumption | exact back_keep (by assumption) (by assumption))
        (first | (go_at_call 21; refine (stext_any _ _ _ _ (by assumption) (by assumption) (by assumption)).mono ?_; rintro r w' ⟨rfl, hv1⟩))
      go_wp2
      go_meet
      exact ⟨rfl, by assumption, g_trans (g_trans (g_drew hB) (by assumption)) (by assumption)⟩
  case rest =>
    obtain ⟨rfl, hS', hB'⟩ := hcut
    clear hS hB
    go_wp2_with fail
    have hS3 : (wc.alloc (.cells #[.string a, .string b, .string c] 28)).cell? ⟨x, 0, none⟩ = some (.string a) ∧ (wc.alloc (.cells #[.string a, .string b, .string c] 28)).cell? ⟨x, 1, none⟩ = some (.string b) ∧ (wc.alloc (.cells #[.string a, .string b, .string c] 28)).cell? ⟨x, 2, none⟩ = some (.string c) ∧ (wc.alloc (.cells #[.string a, .string b, .string c] 28)).cell? ⟨wc.heap.size, 0, none⟩ = some (.string a) ∧ (wc.alloc (.cells #[.string a, .string b, .string c] 28)).cell? ⟨wc.heap.size, 1, none⟩ = some (.string b) ∧ (wc.alloc (.cells #[.string a, .string b, .string c] 28)).cell? ⟨wc.heap.size, 2, none⟩ = some (.string c) ∧ x < (wc.alloc (.cells #[.string a, .string b, .string c] 28)).heap.size ∧ wc.heap.size < (wc.alloc (.cells #[.string a, .string b, .string c] 28)).heap.size := ⟨by go_simp, by go_simp, by go_simp, by go_simp, by go_simp, by go_simp, by simp; omega, by simp⟩
    have hB3 : Below w.heap.size w (wc.alloc (.cells #[.string a, .string b, .string c] 28)) := g_alloc hB' _
    clear hS' hB'
    generalize (wc.alloc (.cells #[.string a, .string b, .string c] 28)) = W8 at *
    generalize wc.heap.size = g at *
    refine (gtext_any a b c _ ha hb hc).mono ?_
    rintro r w8 ⟨rfl, hw8⟩
    replace hS3 := keep_xg hw8 hS3
    replace hB3 := g_trans hB3 hw8
    clear hw8
    cases hz : c.toList.isEmpty
    · have HZ := hid hz
      go_wp2_with fail
      refine (back_goal a b c _ ha hb hc HX.out HZ.out).mono ?_
      rintro r w9 ⟨rfl, hw9⟩
      replace hS3 := keep_xg hw9 hS3
      replace hB3 := g_trans hB3 hw9
      clear hw9
      go_wp2_with fail
      refine (lives_any _).mono ?_
      rintro r w' ⟨rfl, hw⟩
      go_wp2
      go_ret
      exact ⟨rfl, g_trans (g_alloc hB3 _) hw⟩
    · have HZ := hid hz
      go_wp2_with fail
      refine (back_goal_empty a b c _ ha hb hc HX.out HZ.out).mono ?_
      rintro r w9 ⟨rfl, hw9⟩
      replace hS3 := keep_xg hw9 hS3
      replace hB3 := g_trans hB3 hw9
      clear hw9
      generalize (parseF (gtxt a b c) 1 1).1 = p1 at *
      generalize (parseF (gtxt a b c) 1 1).2.1 = p2 at *
      generalize (parseF (gtxt a b c) 1 1).2.2.1 = p3 at *
      go_wp2_with fail
      refine (lives_any _).mono ?_
      rintro r w' ⟨rfl, hw⟩
      go_wp2
      go_ret
      exact ⟨rfl, g_trans (g_alloc hB3 _) hw⟩

theorem back_walk (a b c d e f : ByteArray) (w : World) (ha : a.size ≤ maxLen) (hb : b.size ≤ maxLen) (hc : c.size ≤ maxLen) (hd : d.size ≤ maxLen) (he : e.size ≤ maxLen) (hf : f.size ≤ maxLen) :
    Calls Try.prog 4 #[.agg #[.string a, .string b, .string c], .agg #[.string d, .string e, .string f]] w fun r w' => r = .returned (.bool true) ∧ Below w.heap.size w w' := by
  cases h : [a, b, c, d, e, f].all sh
  · exact back_long_walk a b c d e f w ha hb hc hd he hf h
  · have h6 : a.size ≤ 40 ∧ b.size ≤ 40 ∧ c.size ≤ 40 ∧ d.size ≤ 40 ∧ e.size ≤ 40 ∧ f.size ≤ 40 := by simpa [sh] using h
    obtain ⟨z1, z2, z3, z4, z5, z6⟩ := h6
    cases hx : okSub a b c
    · exact back_no1_walk a b c d e f w z1 z2 z3 z4 z5 z6 hx
    · cases hy : okSub d e f
      · exact back_no2_walk a b c d e f w z1 z2 z3 z4 z5 z6 hx hy
      · exact back_main_walk a b c d e f w z1 z2 z3 z4 z5 z6 hx hy

end Go.Proofs.Ytickinkabcfkbaa
