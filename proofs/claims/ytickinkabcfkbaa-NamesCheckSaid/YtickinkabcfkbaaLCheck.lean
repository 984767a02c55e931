/-
  NamesCheck returns true: the walk.
-/
import Derived.Test.YtickinkabcfkbaaWLives
import Derived.Test.YtickinkabcfkbaaWShort
import Derived.RegionTactic
import Derived.BigRegion
import Derived.ChangeAlike
import Derived.Deep.DeepCutAuto
namespace Go.Proofs.Ytickinkabcfkbaa
open Go.RowKit

theorem short3 (a b c : ByteArray) (v : Bool) (x : Nat) (w : World) (ha : a.size ≤ maxLen) (hb : b.size ≤ maxLen) (hc : c.size ≤ maxLen) (h0 : w.cell? ⟨x, 0, none⟩ = some (.string a)) (h1 : w.cell? ⟨x, 1, none⟩ = some (.string b)) (h2 : w.cell? ⟨x, 2, none⟩ = some (.string c))
    (hv : (sh a && sh b && sh c) = v) :
    Calls Try.prog 7 #[.slice (some ⟨x, 0, none⟩) 3 3] w fun e w' => e = .returned (.bool v) ∧ w = w' := by
  have h := short_any [a, b, c] x w (by simp) (fun k hk => match k, hk with | 0, _ => ha | 1, _ => hb | 2, _ => hc) (fun k hk => match k, hk with | 0, _ => h0 | 1, _ => h1 | 2, _ => h2)
  rw [show ([a, b, c].all sh) = v by simpa [Bool.and_assoc] using hv] at h
  exact h

set_option maxHeartbeats 1000000 in
theorem check_long_walk (a b c : ByteArray) (w : World) (ha : a.size ≤ maxLen) (hb : b.size ≤ maxLen) (hc : c.size ≤ maxLen) (h : (sh a && sh b && sh c) = false) :
    Calls Try.prog 3 #[.string a, .string b, .string c] w fun e w' => e = .returned (.bool true) ∧ Below w.heap.size w w' := by
  have H := hid h; clear h
  go_enter Try.func3, Try.ntmps3
  go_wp2_with fail
  refine (short3 a b c false _ _ ha hb hc (by go_simp) (by go_simp) (by go_simp) H.out).mono ?_
  rintro e w' ⟨rfl, rfl⟩
  go_wp2_with fail
  refine (lives_any _).mono ?_
  rintro e w' ⟨rfl, hw⟩
  go_wp2
  go_ret
  exact ⟨rfl, g_trans (g_alloc g_refl _) hw⟩

theorem check_keep {a b c : ByteArray} {o p q : Nat} {W W' : World} (hb : Below W.heap.size W W') (h : W.cell? ⟨o, 0, none⟩ = some (.string a) ∧ W.cell? ⟨o, 1, none⟩ = some (.string b) ∧ W.cell? ⟨p, 0, none⟩ = some (.string a) ∧ W.cell? ⟨p, 1, none⟩ = some (.string b) ∧ W.cell? ⟨p, 2, none⟩ = some (.string c) ∧ W.cell? ⟨q, 0, none⟩ = some (.string a) ∧ W.cell? ⟨q, 1, none⟩ = some (.string b) ∧ W.cell? ⟨q, 2, none⟩ = some (.string c) ∧ o < W.heap.size ∧ p < W.heap.size ∧ q < W.heap.size) :
    W'.cell? ⟨o, 0, none⟩ = some (.string a) ∧ W'.cell? ⟨o, 1, none⟩ = some (.string b) ∧ W'.cell? ⟨p, 0, none⟩ = some (.string a) ∧ W'.cell? ⟨p, 1, none⟩ = some (.string b) ∧ W'.cell? ⟨p, 2, none⟩ = some (.string c) ∧ W'.cell? ⟨q, 0, none⟩ = some (.string a) ∧ W'.cell? ⟨q, 1, none⟩ = some (.string b) ∧ W'.cell? ⟨q, 2, none⟩ = some (.string c) ∧ o < W'.heap.size ∧ p < W'.heap.size ∧ q < W'.heap.size := by
  obtain ⟨h0, h1, h2, h3, h4, h5, h6, h7, h8, h9, h10⟩ := h
  have hz := hb.size
  exact ⟨(own_cells hb _ h8 _).1.trans h0, (own_cells hb _ h8 _).1.trans h1, (own_cells hb _ h9 _).1.trans h2, (own_cells hb _ h9 _).1.trans h3, (own_cells hb _ h9 _).1.trans h4, (own_cells hb _ h10 _).1.trans h5, (own_cells hb _ h10 _).1.trans h6, (own_cells hb _ h10 _).1.trans h7, Nat.lt_of_lt_of_le h8 hz, Nat.lt_of_lt_of_le h9 hz, Nat.lt_of_lt_of_le h10 hz⟩

set_option maxRecDepth 100000 in
set_option maxHeartbeats 4000000 in
theorem check_short_walk (a b c : ByteArray) (w : World) (ha : a.size ≤ 40) (hb : b.size ≤ 40) (hc : c.size ≤ 40) :
    Calls Try.prog 3 #[.string a, .string b, .string c] w fun e w' => e = .returned (.bool true) ∧ Below w.heap.size w w' := by
  have H : Hid ((sh a && sh b && sh c) = true) := by simp [Hid, sh, ha, hb, hc]
  have la : a.size ≤ maxLen := Nat.le_trans ha (by decide)
  have lb : b.size ≤ maxLen := Nat.le_trans hb (by decide)
  have lc : c.size ≤ maxLen := Nat.le_trans hc (by decide)
  go_enter Try.func3, Try.ntmps3
  go_wp2_with fail
  refine (short3 a b c true _ _ la lb lc (by go_simp) (by go_simp) (by go_simp) H.out).mono ?_
  rintro e w' ⟨rfl, rfl⟩
  go_upto_region 4 with fail
  go_cut [8, 9] (fun s8 s9 wx => ∃ p q : Nat, s8 = .pointer (some ⟨p, 0, none⟩) ∧ s9 = .pointer (some ⟨q, 0, none⟩) ∧ (wx.cell? ⟨w.heap.size + 1, 0, none⟩ = some (.string a) ∧ wx.cell? ⟨w.heap.size + 1, 1, none⟩ = some (.string b) ∧ wx.cell? ⟨p, 0, none⟩ = some (.string a) ∧ wx.cell? ⟨p, 1, none⟩ = some (.string b) ∧ wx.cell? ⟨p, 2, none⟩ = some (.string c) ∧ wx.cell? ⟨q, 0, none⟩ = some (.string a) ∧ wx.cell? ⟨q, 1, none⟩ = some (.string b) ∧ wx.cell? ⟨q, 2, none⟩ = some (.string c) ∧ w.heap.size + 1 < wx.heap.size ∧ p < wx.heap.size ∧ q < wx.heap.size) ∧ Below w.heap.size w wx)
  case first =>
    go_region
    all_goals
      go_wp2_with fail
      go_meet
      exact ⟨_, _, rfl, rfl, ⟨by go_simp, by go_simp, by go_simp, by go_simp, by go_simp, by go_simp, by go_simp, by go_simp, by simp, by simp, by simp⟩, g_drew (g_alloc (g_alloc (g_alloc (g_alloc g_refl _) _) _) _)⟩
  case rest =>
    obtain ⟨p, q, rfl, rfl, hS, hB⟩ := hcut
    generalize w.heap.size + 1 = o at *
    clear H
    go_wp2_with fail
    go_region_held3 (fun w' => w'.cell? ⟨o, 0, none⟩ = some (.string a) ∧ w'.cell? ⟨o, 1, none⟩ = some (.string b) ∧ w'.cell? ⟨p, 0, none⟩ = some (.string a) ∧ w'.cell? ⟨p, 1, none⟩ = some (.string b) ∧ w'.cell? ⟨p, 2, none⟩ = some (.string c) ∧ w'.cell? ⟨q, 0, none⟩ = some (.string a) ∧ w'.cell? ⟨q, 1, none⟩ = some (.string b) ∧ w'.cell? ⟨q, 2, none⟩ = some (.string c) ∧ o < w'.heap.size ∧ p < w'.heap.size ∧ q < w'.heap.size) (first | assumption | exact check_keep (by assumption) (by assumption))
      (first | (go_at_call 9; refine (check_nb a _ la).mono ?_; rintro e w' ⟨rfl, rfl⟩) | (go_at_call 10; refine (rcheck_nb a _ la).mono ?_; rintro e w' ⟨rfl, rfl⟩) | (go_at_call 11; refine (object_any a b _ la lb).mono ?_; rintro e w' ⟨rfl, hv1⟩) | (go_at_call 12; refine (robject_any a b _ la lb).mono ?_; rintro e w' ⟨rfl, hv2⟩) | (go_at_call 13; refine (goal_any a b c _ la lb lc).mono ?_; rintro e w' ⟨rfl, hv3⟩) | (go_at_call 14; refine (rgoal_any a b c _ la lb lc).mono ?_; rintro e w' ⟨rfl, hv4⟩) | (go_at_call 15; refine (subject_any a b c _ la lb lc).mono ?_; rintro e w' ⟨rfl, hv5⟩) | (go_at_call 16; refine (rsubject_any a b c _ la lb lc).mono ?_; rintro e w' ⟨rfl, hv6⟩))
    go_wp2_with fail
    go_region_held3 (fun w' => w'.cell? ⟨o, 0, none⟩ = some (.string a) ∧ w'.cell? ⟨o, 1, none⟩ = some (.string b) ∧ w'.cell? ⟨p, 0, none⟩ = some (.string a) ∧ w'.cell? ⟨p, 1, none⟩ = some (.string b) ∧ w'.cell? ⟨p, 2, none⟩ = some (.string c) ∧ w'.cell? ⟨q, 0, none⟩ = some (.string a) ∧ w'.cell? ⟨q, 1, none⟩ = some (.string b) ∧ w'.cell? ⟨q, 2, none⟩ = some (.string c) ∧ o < w'.heap.size ∧ p < w'.heap.size ∧ q < w'.heap.size) (first | assumption | exact check_keep (by assumption) (by assumption))
      (first | (go_at_call 17; refine (text_any a b _ ha hb).mono ?_; rintro e w' ⟨rfl, ht1⟩) | (go_at_call 18; refine (rtext_any a b _ ha hb).mono ?_; rintro e w' ⟨rfl, ht2⟩) | (go_at_call 19; refine (gtext_any a b c _ ha hb hc).mono ?_; rintro e w' ⟨rfl, ht3⟩) | (go_at_call 20; refine (rgtext_any a b c _ ha hb hc).mono ?_; rintro e w' ⟨rfl, ht4⟩) | (go_at_call 21; refine (stext_any a b c _ ha hb hc).mono ?_; rintro e w' ⟨rfl, ht5⟩) | (go_at_call 22; refine (rstext_any a b c _ ha hb hc).mono ?_; rintro e w' ⟨rfl, ht6⟩) | (go_at_call 8; refine (lives_any _).mono ?_; rintro e w' ⟨rfl, ht7⟩))
    go_wp2
    go_ret
    exact ⟨rfl, g_trans (g_trans (g_trans (g_trans (g_trans (g_trans (g_trans (g_drew (g_trans (g_trans (g_trans (g_trans (g_trans (g_trans (g_drew hB) hv1) hv2) hv3) hv4) hv5) hv6)) ht1) ht2) ht3) ht4) ht5) ht6) ht7⟩

theorem check_walk (a b c : ByteArray) (w : World) (ha : a.size ≤ maxLen) (hb : b.size ≤ maxLen) (hc : c.size ≤ maxLen) :
    Calls Try.prog 3 #[.string a, .string b, .string c] w fun e w' => e = .returned (.bool true) ∧ Below w.heap.size w w' := by
  cases h : (sh a && sh b && sh c)
  · exact check_long_walk a b c w ha hb hc h
  · have h3 : (a.size ≤ 40 ∧ b.size ≤ 40) ∧ c.size ≤ 40 := by simpa [sh] using h
    exact check_short_walk a b c w h3.1.1 h3.1.2 h3.2

end Go.Proofs.Ytickinkabcfkbaa
