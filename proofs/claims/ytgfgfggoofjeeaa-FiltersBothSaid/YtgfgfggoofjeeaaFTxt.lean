/-
  THE CONTRACTS of filters.Text and of the reference's.
-/
import Derived.Test.YtgfgfggoofjeeaaFOr
import Derived.Test.YtgfgfggoofjeeaaFSel
namespace Go.Proofs.Ytgfgfggoofjeeaa
open Go.RowKit Go.Sort
/-- a field's text -/
def st (s : ByteArray) : ByteArray := orS s ⟨#[42]⟩
def SmallF (f : Fil) : Prop := f.a.size ≤ 40 ∧ f.b.size ≤ 40 ∧ f.c.size ≤ 40 ∧ f.d.size ≤ 40 ∧ f.e.size ≤ 40 ∧ f.f.size ≤ 40
theorem st_size {s : ByteArray} (h : s.size ≤ 40) : (st s).size ≤ 40 := by
  unfold st orS; split
  · exact (by decide : (1 : Nat) ≤ 40)
  · exact h
/-- the text of a filter -/
def ftxt (f : Fil) : ByteArray := if f.x then gtxt (st f.a) (st f.b) (st f.c) ++ (⟨#[64]⟩ ++ stxt f.d f.e f.f) else gtxt (st f.a) (st f.b) (st f.c)
theorem fb_keep {b : Nat} {a0 a1 a2 a3 a4 a5 : ByteArray} {x : Bool} {W W' : World} (hb : Below W.heap.size W W')
    (h : W.cell? ⟨b, 0, none⟩ = some (.string a0) ∧ W.cell? ⟨b, 1, none⟩ = some (.string a1) ∧ W.cell? ⟨b, 2, none⟩ = some (.string a2) ∧ W.cell? ⟨b, 3, none⟩ = some (.string a3) ∧ W.cell? ⟨b, 4, none⟩ = some (.string a4) ∧ W.cell? ⟨b, 5, none⟩ = some (.string a5) ∧ W.cell? ⟨b, 6, none⟩ = some (.bool x) ∧ b < W.heap.size) :
    W'.cell? ⟨b, 0, none⟩ = some (.string a0) ∧ W'.cell? ⟨b, 1, none⟩ = some (.string a1) ∧ W'.cell? ⟨b, 2, none⟩ = some (.string a2) ∧ W'.cell? ⟨b, 3, none⟩ = some (.string a3) ∧ W'.cell? ⟨b, 4, none⟩ = some (.string a4) ∧ W'.cell? ⟨b, 5, none⟩ = some (.string a5) ∧ W'.cell? ⟨b, 6, none⟩ = some (.bool x) ∧ b < W'.heap.size := by
  obtain ⟨h0, h1, h2, h3, h4, h5, h6, h7⟩ := h
  have o := own_cells hb b h7
  exact ⟨(o _).1.trans h0, (o _).1.trans h1, (o _).1.trans h2, (o _).1.trans h3, (o _).1.trans h4, (o _).1.trans h5, (o _).1.trans h6, Nat.lt_of_lt_of_le h7 hb.size⟩
theorem fp_keep {b p : Nat} {a0 a1 a2 a3 a4 a5 ta tb : ByteArray} {x : Bool} {W W' : World} (hb : Below W.heap.size W W')
    (h : W.cell? ⟨b, 0, none⟩ = some (.string a0) ∧ W.cell? ⟨b, 1, none⟩ = some (.string a1) ∧ W.cell? ⟨b, 2, none⟩ = some (.string a2) ∧ W.cell? ⟨b, 3, none⟩ = some (.string a3) ∧ W.cell? ⟨b, 4, none⟩ = some (.string a4) ∧ W.cell? ⟨b, 5, none⟩ = some (.string a5) ∧ W.cell? ⟨b, 6, none⟩ = some (.bool x) ∧ b < W.heap.size ∧ W.cell? ⟨p, 0, none⟩ = some (.string ta) ∧ W.cell? ⟨p, 1, none⟩ = some (.string tb) ∧ p < W.heap.size) :
    W'.cell? ⟨b, 0, none⟩ = some (.string a0) ∧ W'.cell? ⟨b, 1, none⟩ = some (.string a1) ∧ W'.cell? ⟨b, 2, none⟩ = some (.string a2) ∧ W'.cell? ⟨b, 3, none⟩ = some (.string a3) ∧ W'.cell? ⟨b, 4, none⟩ = some (.string a4) ∧ W'.cell? ⟨b, 5, none⟩ = some (.string a5) ∧ W'.cell? ⟨b, 6, none⟩ = some (.bool x) ∧ b < W'.heap.size ∧ W'.cell? ⟨p, 0, none⟩ = some (.string ta) ∧ W'.cell? ⟨p, 1, none⟩ = some (.string tb) ∧ p < W'.heap.size := by
  obtain ⟨h0, h1, h2, h3, h4, h5, h6, h7, k0, k1, k2⟩ := h
  have o := own_cells hb b h7
  have q := own_cells hb p k2
  exact ⟨(o _).1.trans h0, (o _).1.trans h1, (o _).1.trans h2, (o _).1.trans h3, (o _).1.trans h4, (o _).1.trans h5, (o _).1.trans h6, Nat.lt_of_lt_of_le h7 hb.size, (q _).1.trans k0, (q _).1.trans k1, Nat.lt_of_lt_of_le k2 hb.size⟩
theorem fp_of {b p : Nat} {a0 a1 a2 a3 a4 a5 ta tb : ByteArray} {x : Bool} {W : World}
    (h : W.cell? ⟨b, 0, none⟩ = some (.string a0) ∧ W.cell? ⟨b, 1, none⟩ = some (.string a1) ∧ W.cell? ⟨b, 2, none⟩ = some (.string a2) ∧ W.cell? ⟨b, 3, none⟩ = some (.string a3) ∧ W.cell? ⟨b, 4, none⟩ = some (.string a4) ∧ W.cell? ⟨b, 5, none⟩ = some (.string a5) ∧ W.cell? ⟨b, 6, none⟩ = some (.bool x) ∧ b < W.heap.size) (k0 : W.cell? ⟨p, 0, none⟩ = some (.string ta)) (k1 : W.cell? ⟨p, 1, none⟩ = some (.string tb)) (k2 : p < W.heap.size) :
    W.cell? ⟨b, 0, none⟩ = some (.string a0) ∧ W.cell? ⟨b, 1, none⟩ = some (.string a1) ∧ W.cell? ⟨b, 2, none⟩ = some (.string a2) ∧ W.cell? ⟨b, 3, none⟩ = some (.string a3) ∧ W.cell? ⟨b, 4, none⟩ = some (.string a4) ∧ W.cell? ⟨b, 5, none⟩ = some (.string a5) ∧ W.cell? ⟨b, 6, none⟩ = some (.bool x) ∧ b < W.heap.size ∧ W.cell? ⟨p, 0, none⟩ = some (.string ta) ∧ W.cell? ⟨p, 1, none⟩ = some (.string tb) ∧ p < W.heap.size := by
  obtain ⟨h0, h1, h2, h3, h4, h5, h6, h7⟩ := h
  exact ⟨h0, h1, h2, h3, h4, h5, h6, h7, k0, k1, k2⟩
theorem str_app {a b : ByteArray} (h : a = b) : Ending.returned (.string a) = .returned (.string b) := by rw [h]
set_option maxRecDepth 20000 in
set_option maxHeartbeats 2000000 in
theorem ftext (f : Fil) (w : World) (hf : SmallF f) :
    Calls Try.prog 42 #[valF f] w fun r w' => r = .returned (.string (ftxt f)) ∧ Below w.heap.size w w' := by
  obtain ⟨a, b, c, d, e, f, x⟩ := f
  obtain ⟨sa, sb, sc, sd, se, sf⟩ := hf
  simp only at sa sb sc sd se sf
  have za := st_size sa
  have zb := st_size sb
  have zc := st_size sc
  have HK : Hid (ftxt ⟨a, b, c, d, e, f, x⟩ = if x then gtxt (st a) (st b) (st c) ++ (⟨#[64]⟩ ++ stxt d e f) else gtxt (st a) (st b) (st c)) := hid rfl
  have HSA : Hid (orS a ⟨#[42]⟩ = st a) := hid rfl
  have HSB : Hid (orS b ⟨#[42]⟩ = st b) := hid rfl
  have HSC : Hid (orS c ⟨#[42]⟩ = st c) := hid rfl
  generalize st a = ta at *
  generalize st b = tb at *
  generalize st c = tc at *
  have zg := gtxt_size za zb zc
  have zs := stxt_size sd se sf
  simp only [valF]
  have hS : (w.alloc (.cells #[.string a, .string b, .string c, .string d, .string e, .string f, .bool x] 35)).cell? ⟨w.heap.size, 0, none⟩ = some (.string a) ∧ (w.alloc (.cells #[.string a, .string b, .string c, .string d, .string e, .string f, .bool x] 35)).cell? ⟨w.heap.size, 1, none⟩ = some (.string b) ∧ (w.alloc (.cells #[.string a, .string b, .string c, .string d, .string e, .string f, .bool x] 35)).cell? ⟨w.heap.size, 2, none⟩ = some (.string c) ∧ (w.alloc (.cells #[.string a, .string b, .string c, .string d, .string e, .string f, .bool x] 35)).cell? ⟨w.heap.size, 3, none⟩ = some (.string d) ∧ (w.alloc (.cells #[.string a, .string b, .string c, .string d, .string e, .string f, .bool x] 35)).cell? ⟨w.heap.size, 4, none⟩ = some (.string e) ∧ (w.alloc (.cells #[.string a, .string b, .string c, .string d, .string e, .string f, .bool x] 35)).cell? ⟨w.heap.size, 5, none⟩ = some (.string f) ∧ (w.alloc (.cells #[.string a, .string b, .string c, .string d, .string e, .string f, .bool x] 35)).cell? ⟨w.heap.size, 6, none⟩ = some (.bool x) ∧ w.heap.size < (w.alloc (.cells #[.string a, .string b, .string c, .string d, .string e, .string f, .bool x] 35)).heap.size := ⟨by go_simp, by go_simp, by go_simp, by go_simp, by go_simp, by go_simp, by go_simp, by simp⟩
  have hB : Below w.heap.size w (w.alloc (.cells #[.string a, .string b, .string c, .string d, .string e, .string f, .bool x] 35)) := g_alloc g_refl _
  go_enter Try.func42, Try.ntmps42
  go_upto_region 1 with fail
  generalize w.alloc (.cells #[.string a, .string b, .string c, .string d, .string e, .string f, .bool x] 35) = W0 at *
  go_cut [3] (fun s3 wx => ∃ p : Nat, s3 = .pointer (some ⟨p, 0, none⟩) ∧ (wx.cell? ⟨w.heap.size, 0, none⟩ = some (.string a) ∧ wx.cell? ⟨w.heap.size, 1, none⟩ = some (.string b) ∧ wx.cell? ⟨w.heap.size, 2, none⟩ = some (.string c) ∧ wx.cell? ⟨w.heap.size, 3, none⟩ = some (.string d) ∧ wx.cell? ⟨w.heap.size, 4, none⟩ = some (.string e) ∧ wx.cell? ⟨w.heap.size, 5, none⟩ = some (.string f) ∧ wx.cell? ⟨w.heap.size, 6, none⟩ = some (.bool x) ∧ w.heap.size < wx.heap.size ∧ wx.cell? ⟨p, 0, none⟩ = some (.string ta) ∧ wx.cell? ⟨p, 1, none⟩ = some (.string tb) ∧ p < wx.heap.size) ∧ Below w.heap.size w wx)
  case first =>
    go_region_held3 (fun w' => w'.cell? ⟨w.heap.size, 0, none⟩ = some (.string a) ∧ w'.cell? ⟨w.heap.size, 1, none⟩ = some (.string b) ∧ w'.cell? ⟨w.heap.size, 2, none⟩ = some (.string c) ∧ w'.cell? ⟨w.heap.size, 3, none⟩ = some (.string d) ∧ w'.cell? ⟨w.heap.size, 4, none⟩ = some (.string e) ∧ w'.cell? ⟨w.heap.size, 5, none⟩ = some (.string f) ∧ w'.cell? ⟨w.heap.size, 6, none⟩ = some (.bool x) ∧ w.heap.size < w'.heap.size) (first | assumption | exact fb_keep (by assumption) (by assumption) | exact fb_keep (g_alloc g_refl _) (by assumption) | exact fb_keep (g_drew (g_alloc g_refl _)) (by assumption) | exact fb_keep (g_drew g_refl) (by assumption) | exact fb_keep (g_drew (g_alloc (g_alloc (g_alloc g_refl _) _) _)) (by assumption) | exact fb_keep (g_drew (g_alloc (g_alloc (g_alloc g_refl _) _) _)) hS)
      (first | (go_at_call 34; refine (orS_any a ⟨#[42]⟩ _ _ ?_ ?_).mono ?_ <;> first | (rintro r w' ⟨rfl, rfl⟩; rw [HSA.out]) | (go_simp; done)) | (go_at_call 34; refine (orS_any b ⟨#[42]⟩ _ _ ?_ ?_).mono ?_ <;> first | (rintro r w' ⟨rfl, rfl⟩; rw [HSB.out]) | (go_simp; done)))
    all_goals
      go_wp2_with fail
      go_meet
      exact ⟨_, rfl, fp_of (fb_keep (by repeat (first | (with_reducible exact g_refl) | (with_reducible refine g_drew ?_) | (with_reducible refine g_alloc ?_ _))) hS) (by go_simp) (by go_simp) (by simp <;> omega), by repeat (first | exact hB | (with_reducible refine g_drew ?_) | (with_reducible refine g_alloc ?_ _))⟩
  case rest =>
    obtain ⟨p, rfl, hS2, hB2⟩ := hcut
    go_wp2_with fail
    go_region_held3 (fun w' => w'.cell? ⟨w.heap.size, 0, none⟩ = some (.string a) ∧ w'.cell? ⟨w.heap.size, 1, none⟩ = some (.string b) ∧ w'.cell? ⟨w.heap.size, 2, none⟩ = some (.string c) ∧ w'.cell? ⟨w.heap.size, 3, none⟩ = some (.string d) ∧ w'.cell? ⟨w.heap.size, 4, none⟩ = some (.string e) ∧ w'.cell? ⟨w.heap.size, 5, none⟩ = some (.string f) ∧ w'.cell? ⟨w.heap.size, 6, none⟩ = some (.bool x) ∧ w.heap.size < w'.heap.size ∧ w'.cell? ⟨p, 0, none⟩ = some (.string ta) ∧ w'.cell? ⟨p, 1, none⟩ = some (.string tb) ∧ p < w'.heap.size) (first | assumption | exact fp_keep (by assumption) (by assumption) | exact fp_keep (g_alloc g_refl _) (by assumption) | exact fp_keep (g_drew (g_alloc g_refl _)) (by assumption) | exact fp_keep (g_drew g_refl) (by assumption))
      (first | (go_at_call 34; refine (orS_any c ⟨#[42]⟩ _ _ ?_ ?_).mono ?_ <;> first | (rintro r w' ⟨rfl, rfl⟩; rw [HSC.out]) | (go_simp; done)) | (go_at_call 73; with_reducible refine (gtext_any ta tb tc _ za zb zc).mono ?_; rintro r w' ⟨rfl, hwg⟩))
    all_goals
      have hB3 := g_trans hB2 (g_trans (g_drew (g_alloc g_refl (.cells #[.string c, .string ⟨#[42]⟩] 9))) hwg)
      have hS3 := fp_keep (g_trans (g_drew (g_alloc g_refl (.cells #[.string c, .string ⟨#[42]⟩] 9))) hwg) hS2
      obtain ⟨k0, k1, k2, k3, k4, k5, k6, k7, k8, k9, k10⟩ := hS3
      generalize gtxt ta tb tc = tg at *
      clear hS2 hB2 hwg k0 k1 k2 k8 k9 k10
      cases x
      · go_wp2
        go_ret
        exact ⟨str_app (by rw [HK.out]; rfl), hB3⟩
      · have s1 : ¬ 9223372036854775807 < 1 + (stxt d e f).size := by omega
        have s2 : ¬ 9223372036854775807 < tg.size + (1 + (stxt d e f).size) := by omega
        go_wp2_with fail
        refine (stext_any d e f _ sd se sf).mono ?_
        rintro r w4 ⟨rfl, hw4⟩
        go_wp2
        go_ret
        exact ⟨str_app (by rw [HK.out]; rfl), g_trans hB3 hw4⟩
end Go.Proofs.Ytgfgfggoofjeeaa
