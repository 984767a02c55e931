/-
  NamesBack returns true: the walk.
-/
import Derived.Test.YtickinkabcfkbaaWLives
import Derived.Test.YtickinkabcfkbaaWShort
import Derived.Test.YtickinkabcfkbaaWROrd
import Derived.Test.YtickinkabcfkbaaMBack
import Derived.Deep.DeepCutAuto
namespace Go.Proofs.Ytickinkabcfkbaa
open Go.RowKit

theorem short6 (a b c d e f : ByteArray) (v : Bool) (x : Nat) (w : World) (ha : a.size ≤ maxLen) (hb : b.size ≤ maxLen) (hc : c.size ≤ maxLen) (hd : d.size ≤ maxLen) (he : e.size ≤ maxLen) (hf : f.size ≤ maxLen)
    (h0 : w.cell? ⟨x, 0, none⟩ = some (.string a)) (h1 : w.cell? ⟨x, 1, none⟩ = some (.string b)) (h2 : w.cell? ⟨x, 2, none⟩ = some (.string c)) (h3 : w.cell? ⟨x, 3, none⟩ = some (.string d)) (h4 : w.cell? ⟨x, 4, none⟩ = some (.string e)) (h5 : w.cell? ⟨x, 5, none⟩ = some (.string f))
    (hv : [a, b, c, d, e, f].all sh = v) :
    Calls Try.prog 7 #[.slice (some ⟨x, 0, none⟩) 6 6] w fun r w' => r = .returned (.bool v) ∧ w = w' := by
  have h := short_any [a, b, c, d, e, f] x w (by simp) (fun k hk => match k, hk with | 0, _ => ha | 1, _ => hb | 2, _ => hc | 3, _ => hd | 4, _ => he | 5, _ => hf)
    (fun k hk => match k, hk with | 0, _ => h0 | 1, _ => h1 | 2, _ => h2 | 3, _ => h3 | 4, _ => h4 | 5, _ => h5)
  rw [hv] at h
  exact h
theorem rsub_v (a b c : ByteArray) (v : Bool) (w : World) (ha : a.size ≤ 40) (hb : b.size ≤ 40) (hc : c.size ≤ 40) (h : okSub a b c = v) :
    Calls Try.prog 16 #[.agg #[.string a, .string b, .string c]] w fun r w' => r = .returned (.int .i64 (err v)) ∧ Below w.heap.size w w' := by
  have q := rsubject_any a b c w (Nat.le_trans ha (by decide)) (Nat.le_trans hb (by decide)) (Nat.le_trans hc (by decide)); rw [h] at q; exact q
theorem rsub_yes (a b c : ByteArray) (w : World) (ha : a.size ≤ 40) (hb : b.size ≤ 40) (hc : c.size ≤ 40) (h : okSub a b c = true) :
    Calls Try.prog 16 #[.agg #[.string a, .string b, .string c]] w fun r w' => r = .returned (.int .i64 0) ∧ Below w.heap.size w w' := rsub_v a b c true w ha hb hc h
theorem rsub_no (a b c : ByteArray) (w : World) (ha : a.size ≤ 40) (hb : b.size ≤ 40) (hc : c.size ≤ 40) (h : okSub a b c = false) :
    Calls Try.prog 16 #[.agg #[.string a, .string b, .string c]] w fun r w' => r = .returned (.int .i64 6) ∧ Below w.heap.size w w' := rsub_v a b c false w ha hb hc h
theorem stxt_size (a b c : ByteArray) (ha : a.size ≤ 40) (hb : b.size ≤ 40) (hc : c.size ≤ 40) : (stxt a b c).size ≤ 122 := by
  unfold stxt; split
  · have := txt_size a b ha hb; omega
  · unfold gtxt; simp only [ByteArray.size_append]; have h1 : (ByteArray.mk #[58]).size = 1 := rfl; have h2 : (ByteArray.mk #[35]).size = 1 := rfl; omega
theorem gtxt_size (a b c : ByteArray) (ha : a.size ≤ 40) (hb : b.size ≤ 40) (hc : c.size ≤ 40) : (gtxt a b c).size ≤ 122 := by
  unfold gtxt; simp only [ByteArray.size_append]; have h1 : (ByteArray.mk #[58]).size = 1 := rfl; have h2 : (ByteArray.mk #[35]).size = 1 := rfl; omega
theorem back_sub (a b c : ByteArray) (w : World) (ha : a.size ≤ 40) (hb : b.size ≤ 40) (hc : c.size ≤ 40) (h : okSub a b c = true) :
    Calls Try.prog 23 #[.string (stxt a b c)] w fun r w' => r = .returned (.tuple #[.agg #[.string a, .string b, .string c], .int .i64 0]) ∧ Below w.heap.size w w' := by
  have q := parseSubject_any (stxt a b c) w (Nat.le_trans (stxt_size a b c ha hb hc) (by decide))
  unfold SubjectRet at q; rw [parse_stxt h] at q; exact q
theorem back_obj (a b : ByteArray) (w : World) (ha : a.size ≤ 40) (hb : b.size ≤ 40) (h : nb a = true) (k : nb b = true) :
    Calls Try.prog 24 #[.string (txt a b)] w fun r w' => r = .returned (.tuple #[.agg #[.string a, .string b], .int .i64 0]) ∧ Below w.heap.size w w' := by
  have q := parseObject_any (txt a b) w (Nat.le_trans (txt_size a b ha hb) (by decide))
  unfold ObjectRet at q; rw [parse_txt h k 0 (by omega)] at q; exact q
theorem back_goal (a b c : ByteArray) (w : World) (ha : a.size ≤ 40) (hb : b.size ≤ 40) (hc : c.size ≤ 40) (h : okSub a b c = true) (hz : c.toList.isEmpty = false) :
    Calls Try.prog 25 #[.string (gtxt a b c)] w fun r w' => r = .returned (.tuple #[.agg #[.string a, .string b, .string c], .int .i64 0]) ∧ Below w.heap.size w w' := by
  have q := parseGoal_any (gtxt a b c) w (Nat.le_trans (gtxt_size a b c ha hb hc) (by decide))
  obtain ⟨k1, k2, k3⟩ := ok_parts h
  unfold GoalRet at q; rw [parse_gtxt k1 k2 (by rcases k3 with k | k; (rw [hz] at k; cases k); exact k) 1 (by omega)] at q; exact q
theorem back_goal_empty (a b c : ByteArray) (w : World) (ha : a.size ≤ 40) (hb : b.size ≤ 40) (hc : c.size ≤ 40) (h : okSub a b c = true) (hz : c.toList.isEmpty = true) :
    Calls Try.prog 25 #[.string (gtxt a b c)] w fun r w' => r = .returned (.tuple #[.agg #[.string (parseF (gtxt a b c) 1 1).1, .string (parseF (gtxt a b c) 1 1).2.1, .string (parseF (gtxt a b c) 1 1).2.2.1], .int .i64 6]) ∧ Below w.heap.size w w' := by
  have q := parseGoal_any (gtxt a b c) w (Nat.le_trans (gtxt_size a b c ha hb hc) (by decide))
  obtain ⟨k1, k2, k3⟩ := ok_parts h
  unfold GoalRet at q; rw [parse_gtxt_empty k1 k2 hz] at q; exact q

theorem back_keep {a b c d e f : ByteArray} {x y u o : Nat} {W W' : World} (hb : Below W.heap.size W W') (h : W.cell? ⟨x, 0, none⟩ = some (.string a) ∧ W.cell? ⟨x, 1, none⟩ = some (.string b) ∧ W.cell? ⟨x, 2, none⟩ = some (.string c) ∧ W.cell? ⟨y, 0, none⟩ = some (.string d) ∧ W.cell? ⟨y, 1, none⟩ = some (.string e) ∧ W.cell? ⟨y, 2, none⟩ = some (.string f) ∧ W.cell? ⟨u, 0, none⟩ = some (.string a) ∧ W.cell? ⟨u, 1, none⟩ = some (.string b) ∧ W.cell? ⟨u, 2, none⟩ = some (.string c) ∧ W.cell? ⟨o, 0, none⟩ = some (.string d) ∧ W.cell? ⟨o, 1, none⟩ = some (.string e) ∧ x < W.heap.size ∧ y < W.heap.size ∧ u < W.heap.size ∧ o < W.heap.size) :
    W'.cell? ⟨x, 0, none⟩ = some (.string a) ∧ W'.cell? ⟨x, 1, none⟩ = some (.string b) ∧ W'.cell? ⟨x, 2, none⟩ = some (.string c) ∧ W'.cell? ⟨y, 0, none⟩ = some (.string d) ∧ W'.cell? ⟨y, 1, none⟩ = some (.string e) ∧ W'.cell? ⟨y, 2, none⟩ = some (.string f) ∧ W'.cell? ⟨u, 0, none⟩ = some (.string a) ∧ W'.cell? ⟨u, 1, none⟩ = some (.string b) ∧ W'.cell? ⟨u, 2, none⟩ = some (.string c) ∧ W'.cell? ⟨o, 0, none⟩ = some (.string d) ∧ W'.cell? ⟨o, 1, none⟩ = some (.string e) ∧ x < W'.heap.size ∧ y < W'.heap.size ∧ u < W'.heap.size ∧ o < W'.heap.size := by
  obtain ⟨h0, h1, h2, h3, h4, h5, h6, h7, h8, h9, h10, h11, h12, h13, h14⟩ := h
  have hz := hb.size
  exact ⟨(own_cells hb _ h11 _).1.trans h0, (own_cells hb _ h11 _).1.trans h1, (own_cells hb _ h11 _).1.trans h2, (own_cells hb _ h12 _).1.trans h3, (own_cells hb _ h12 _).1.trans h4, (own_cells hb _ h12 _).1.trans h5, (own_cells hb _ h13 _).1.trans h6, (own_cells hb _ h13 _).1.trans h7, (own_cells hb _ h13 _).1.trans h8, (own_cells hb _ h14 _).1.trans h9, (own_cells hb _ h14 _).1.trans h10, Nat.lt_of_lt_of_le h11 hz, Nat.lt_of_lt_of_le h12 hz, Nat.lt_of_lt_of_le h13 hz, Nat.lt_of_lt_of_le h14 hz⟩

set_option maxRecDepth 100000 in
set_option maxHeartbeats 2000000 in
theorem back_long_walk (a b c d e f : ByteArray) (w : World) (ha : a.size ≤ maxLen) (hb : b.size ≤ maxLen) (hc : c.size ≤ maxLen) (hd : d.size ≤ maxLen) (he : e.size ≤ maxLen) (hf : f.size ≤ maxLen) (h : [a, b, c, d, e, f].all sh = false) :
    Calls Try.prog 4 #[.agg #[.string a, .string b, .string c], .agg #[.string d, .string e, .string f]] w fun r w' => r = .returned (.bool true) ∧ Below w.heap.size w w' := by
  have H := hid h; clear h
  go_enter Try.func4, Try.ntmps4
  go_wp2_with fail
  refine (short6 a b c d e f false _ _ ha hb hc hd he hf (by go_simp) (by go_simp) (by go_simp) (by go_simp) (by go_simp) (by go_simp) H.out).mono ?_
  rintro r w' ⟨rfl, rfl⟩
  go_wp2_with fail
  refine (lives_any _).mono ?_
  rintro r w' ⟨rfl, hw⟩
  go_wp2
  go_ret
  exact ⟨rfl, g_trans (g_alloc (g_alloc (g_alloc g_refl _) _) _) hw⟩

set_option maxRecDepth 100000 in
set_option maxHeartbeats 2000000 in
theorem back_no1_walk (a b c d e f : ByteArray) (w : World) (ha : a.size ≤ 40) (hb : b.size ≤ 40) (hc : c.size ≤ 40) (hd : d.size ≤ 40) (he : e.size ≤ 40) (hf : f.size ≤ 40) (h : okSub a b c = false) :
    Calls Try.prog 4 #[.agg #[.string a, .string b, .string c], .agg #[.string d, .string e, .string f]] w fun r w' => r = .returned (.bool true) ∧ Below w.heap.size w w' := by
  have H : Hid ([a, b, c, d, e, f].all sh = true) := by simp [Hid, sh, ha, hb, hc, hd, he, hf]
  have la : Hid (∀ s : ByteArray, s.size ≤ 40 → s.size ≤ maxLen) := fun s h => Nat.le_trans h (by decide)
  have HX := hid h; clear h
  go_enter Try.func4, Try.ntmps4
  go_wp2_with fail
  refine (short6 a b c d e f true _ _ (la.out _ ha) (la.out _ hb) (la.out _ hc) (la.out _ hd) (la.out _ he) (la.out _ hf) (by go_simp) (by go_simp) (by go_simp) (by go_simp) (by go_simp) (by go_simp) H.out).mono ?_
  rintro r w' ⟨rfl, rfl⟩
  clear H la
  go_wp2_with fail
  refine (rsub_no a b c _ ha hb hc HX.out).mono ?_
  rintro r w1 ⟨rfl, hw1⟩
  go_wp2_with fail
  refine (lives_any _).mono ?_
  rintro r w' ⟨rfl, hw⟩
  go_wp2
  go_ret
  exact ⟨rfl, g_trans (g_trans (g_alloc (g_alloc (g_alloc (g_alloc (g_alloc g_refl _) _) _) _) _) hw1) hw⟩

set_option maxRecDepth 100000 in
set_option maxHeartbeats 2000000 in
theorem back_no2_walk (a b c d e f : ByteArray) (w : World) (ha : a.size ≤ 40) (hb : b.size ≤ 40) (hc : c.size ≤ 40) (hd : d.size ≤ 40) (he : e.size ≤ 40) (hf : f.size ≤ 40) (h : okSub a b c = true) (k : okSub d e f = false) :
    Calls Try.prog 4 #[.agg #[.string a, .string b, .string c], .agg #[.string d, .string e, .string f]] w fun r w' => r = .returned (.bool true) ∧ Below w.heap.size w w' := by
  have H : Hid ([a, b, c, d, e, f].all sh = true) := by simp [Hid, sh, ha, hb, hc, hd, he, hf]
  have la : Hid (∀ s : ByteArray, s.size ≤ 40 → s.size ≤ maxLen) := fun s h => Nat.le_trans h (by decide)
  have HX := hid h; clear h
  have HY := hid k; clear k
  go_enter Try.func4, Try.ntmps4
  go_wp2_with fail
  refine (short6 a b c d e f true _ _ (la.out _ ha) (la.out _ hb) (la.out _ hc) (la.out _ hd) (la.out _ he) (la.out _ hf) (by go_simp) (by go_simp) (by go_simp) (by go_simp) (by go_simp) (by go_simp) H.out).mono ?_
  rintro r w' ⟨rfl, rfl⟩
  clear H la
  go_wp2_with fail
  refine (rsub_yes a b c _ ha hb hc HX.out).mono ?_
  rintro r w1 ⟨rfl, hw1⟩
  have own := own_cells hw1 (w.heap.size + 1 + 1 + 1 + 1) (by simp)
  have y0 : w1.cell? ⟨w.heap.size + 1 + 1 + 1 + 1, 0, none⟩ = some (.string d) := (own 0).1.trans (by go_simp)
  have y1 : w1.cell? ⟨w.heap.size + 1 + 1 + 1 + 1, 1, none⟩ = some (.string e) := (own 1).1.trans (by go_simp)
  have y2 : w1.cell? ⟨w.heap.size + 1 + 1 + 1 + 1, 2, none⟩ = some (.string f) := (own 2).1.trans (by go_simp)
  clear own
  go_wp2_with fail
  refine (rsub_no d e f _ hd he hf HY.out).mono ?_
  rintro r w2 ⟨rfl, hw2⟩
  go_wp2_with fail
  refine (lives_any _).mono ?_
  rintro r w' ⟨rfl, hw⟩
  go_wp2
  go_ret
  exact ⟨rfl, g_trans (g_trans (g_trans (g_alloc (g_alloc (g_alloc (g_alloc (g_alloc g_refl _) _) _) _) _) hw1) hw2) hw⟩

end Go.Proofs.Ytickinkabcfkbaa
