/-
  NamesOrder returns true: the walk.
-/
import Derived.Test.YtickinkabcfkbaaWLives
import Derived.Test.YtickinkabcfkbaaWShort
import Derived.Test.YtickinkabcfkbaaMOrd
import Derived.RegionTactic
import Derived.BigRegion
import Derived.ChangeAlike
import Derived.Deep.DeepCutAuto
import Derived.IntWalk
namespace Go.Proofs.Ytickinkabcfkbaa
open Go.RowKit

theorem short9 (a b c d e f x y z : ByteArray) (v : Bool) (B : Nat) (w : World) (ha : a.size ≤ maxLen) (hb : b.size ≤ maxLen) (hc : c.size ≤ maxLen) (hd : d.size ≤ maxLen) (he : e.size ≤ maxLen) (hf : f.size ≤ maxLen) (hx : x.size ≤ maxLen) (hy : y.size ≤ maxLen) (hz : z.size ≤ maxLen)
    (h0 : w.cell? ⟨B, 0, none⟩ = some (.string a)) (h1 : w.cell? ⟨B, 1, none⟩ = some (.string b)) (h2 : w.cell? ⟨B, 2, none⟩ = some (.string c)) (h3 : w.cell? ⟨B, 3, none⟩ = some (.string d)) (h4 : w.cell? ⟨B, 4, none⟩ = some (.string e)) (h5 : w.cell? ⟨B, 5, none⟩ = some (.string f)) (h6 : w.cell? ⟨B, 6, none⟩ = some (.string x)) (h7 : w.cell? ⟨B, 7, none⟩ = some (.string y)) (h8 : w.cell? ⟨B, 8, none⟩ = some (.string z))
    (hv : [a, b, c, d, e, f, x, y, z].all sh = v) :
    Calls Try.prog 7 #[.slice (some ⟨B, 0, none⟩) 9 9] w fun r w' => r = .returned (.bool v) ∧ w = w' := by
  have h := short_any [a, b, c, d, e, f, x, y, z] B w (by simp) (fun k hk => match k, hk with | 0, _ => ha | 1, _ => hb | 2, _ => hc | 3, _ => hd | 4, _ => he | 5, _ => hf | 6, _ => hx | 7, _ => hy | 8, _ => hz)
    (fun k hk => match k, hk with | 0, _ => h0 | 1, _ => h1 | 2, _ => h2 | 3, _ => h3 | 4, _ => h4 | 5, _ => h5 | 6, _ => h6 | 7, _ => h7 | 8, _ => h8)
  rw [hv] at h
  exact h

set_option maxRecDepth 100000 in
set_option maxHeartbeats 2000000 in
theorem order_long_walk (a b c d e f x y z : ByteArray) (w : World) (ha : a.size ≤ maxLen) (hb : b.size ≤ maxLen) (hc : c.size ≤ maxLen) (hd : d.size ≤ maxLen) (he : e.size ≤ maxLen) (hf : f.size ≤ maxLen) (hx : x.size ≤ maxLen) (hy : y.size ≤ maxLen) (hz : z.size ≤ maxLen) (h : [a, b, c, d, e, f, x, y, z].all sh = false) :
    Calls Try.prog 5 #[.agg #[.string a, .string b, .string c], .agg #[.string d, .string e, .string f], .agg #[.string x, .string y, .string z]] w fun r w' => r = .returned (.bool true) ∧ Below w.heap.size w w' := by
  have H := hid h; clear h
  go_enter Try.func5, Try.ntmps5
  go_wp2_with fail
  refine (short9 a b c d e f x y z false _ _ ha hb hc hd he hf hx hy hz (by go_simp) (by go_simp) (by go_simp) (by go_simp) (by go_simp) (by go_simp) (by go_simp) (by go_simp) (by go_simp) H.out).mono ?_
  rintro r w' ⟨rfl, rfl⟩
  go_wp2_with fail
  refine (lives_any _).mono ?_
  rintro r w' ⟨rfl, hw⟩
  go_wp2
  go_ret
  exact ⟨rfl, g_trans (g_alloc (g_alloc (g_alloc (g_alloc g_refl _) _) _) _) hw⟩

theorem keep_xyst {x1 x2 x3 y1 y2 y3 : ByteArray} {p q s t : Nat} {W W' : World} (hb : Below W.heap.size W W') (h : W.cell? ⟨p, 0, none⟩ = some (.string x1) ∧ W.cell? ⟨p, 1, none⟩ = some (.string x2) ∧ W.cell? ⟨p, 2, none⟩ = some (.string x3) ∧ W.cell? ⟨q, 0, none⟩ = some (.string y1) ∧ W.cell? ⟨q, 1, none⟩ = some (.string y2) ∧ W.cell? ⟨q, 2, none⟩ = some (.string y3) ∧ W.cell? ⟨s, 0, none⟩ = some (.string x1) ∧ W.cell? ⟨s, 1, none⟩ = some (.string x2) ∧ W.cell? ⟨s, 2, none⟩ = some (.string x3) ∧ W.cell? ⟨t, 0, none⟩ = some (.string y1) ∧ W.cell? ⟨t, 1, none⟩ = some (.string y2) ∧ W.cell? ⟨t, 2, none⟩ = some (.string y3)) :
    W'.cell? ⟨p, 0, none⟩ = some (.string x1) ∧ W'.cell? ⟨p, 1, none⟩ = some (.string x2) ∧ W'.cell? ⟨p, 2, none⟩ = some (.string x3) ∧ W'.cell? ⟨q, 0, none⟩ = some (.string y1) ∧ W'.cell? ⟨q, 1, none⟩ = some (.string y2) ∧ W'.cell? ⟨q, 2, none⟩ = some (.string y3) ∧ W'.cell? ⟨s, 0, none⟩ = some (.string x1) ∧ W'.cell? ⟨s, 1, none⟩ = some (.string x2) ∧ W'.cell? ⟨s, 2, none⟩ = some (.string x3) ∧ W'.cell? ⟨t, 0, none⟩ = some (.string y1) ∧ W'.cell? ⟨t, 1, none⟩ = some (.string y2) ∧ W'.cell? ⟨t, 2, none⟩ = some (.string y3) := by
  obtain ⟨h0, h1, h2, h3, h4, h5, h6, h7, h8, h9, h10, h11⟩ := h
  exact ⟨(own_cells hb _ (World.block_lt_of_cell? _ _ h0) _).1.trans h0, (own_cells hb _ (World.block_lt_of_cell? _ _ h1) _).1.trans h1, (own_cells hb _ (World.block_lt_of_cell? _ _ h2) _).1.trans h2, (own_cells hb _ (World.block_lt_of_cell? _ _ h3) _).1.trans h3, (own_cells hb _ (World.block_lt_of_cell? _ _ h4) _).1.trans h4, (own_cells hb _ (World.block_lt_of_cell? _ _ h5) _).1.trans h5, (own_cells hb _ (World.block_lt_of_cell? _ _ h6) _).1.trans h6, (own_cells hb _ (World.block_lt_of_cell? _ _ h7) _).1.trans h7, (own_cells hb _ (World.block_lt_of_cell? _ _ h8) _).1.trans h8, (own_cells hb _ (World.block_lt_of_cell? _ _ h9) _).1.trans h9, (own_cells hb _ (World.block_lt_of_cell? _ _ h10) _).1.trans h10, (own_cells hb _ (World.block_lt_of_cell? _ _ h11) _).1.trans h11⟩
theorem keep_xy2 {x1 x2 x3 y1 y2 y3 : ByteArray} {p q : Nat} {W W' : World} (hb : Below W.heap.size W W') (h : W.cell? ⟨p, 0, none⟩ = some (.string x1) ∧ W.cell? ⟨p, 1, none⟩ = some (.string x2) ∧ W.cell? ⟨p, 2, none⟩ = some (.string x3) ∧ W.cell? ⟨q, 0, none⟩ = some (.string y1) ∧ W.cell? ⟨q, 1, none⟩ = some (.string y2) ∧ W.cell? ⟨q, 2, none⟩ = some (.string y3)) :
    W'.cell? ⟨p, 0, none⟩ = some (.string x1) ∧ W'.cell? ⟨p, 1, none⟩ = some (.string x2) ∧ W'.cell? ⟨p, 2, none⟩ = some (.string x3) ∧ W'.cell? ⟨q, 0, none⟩ = some (.string y1) ∧ W'.cell? ⟨q, 1, none⟩ = some (.string y2) ∧ W'.cell? ⟨q, 2, none⟩ = some (.string y3) := by
  obtain ⟨h0, h1, h2, h3, h4, h5⟩ := h
  exact ⟨(own_cells hb _ (World.block_lt_of_cell? _ _ h0) _).1.trans h0, (own_cells hb _ (World.block_lt_of_cell? _ _ h1) _).1.trans h1, (own_cells hb _ (World.block_lt_of_cell? _ _ h2) _).1.trans h2, (own_cells hb _ (World.block_lt_of_cell? _ _ h3) _).1.trans h3, (own_cells hb _ (World.block_lt_of_cell? _ _ h4) _).1.trans h4, (own_cells hb _ (World.block_lt_of_cell? _ _ h5) _).1.trans h5⟩
theorem keep_xyz {x1 x2 x3 y1 y2 y3 z1 z2 z3 : ByteArray} {p q o : Nat} {W W' : World} (hb : Below W.heap.size W W') (h : W.cell? ⟨p, 0, none⟩ = some (.string x1) ∧ W.cell? ⟨p, 1, none⟩ = some (.string x2) ∧ W.cell? ⟨p, 2, none⟩ = some (.string x3) ∧ W.cell? ⟨q, 0, none⟩ = some (.string y1) ∧ W.cell? ⟨q, 1, none⟩ = some (.string y2) ∧ W.cell? ⟨q, 2, none⟩ = some (.string y3) ∧ W.cell? ⟨o, 0, none⟩ = some (.string z1) ∧ W.cell? ⟨o, 1, none⟩ = some (.string z2) ∧ W.cell? ⟨o, 2, none⟩ = some (.string z3)) :
    W'.cell? ⟨p, 0, none⟩ = some (.string x1) ∧ W'.cell? ⟨p, 1, none⟩ = some (.string x2) ∧ W'.cell? ⟨p, 2, none⟩ = some (.string x3) ∧ W'.cell? ⟨q, 0, none⟩ = some (.string y1) ∧ W'.cell? ⟨q, 1, none⟩ = some (.string y2) ∧ W'.cell? ⟨q, 2, none⟩ = some (.string y3) ∧ W'.cell? ⟨o, 0, none⟩ = some (.string z1) ∧ W'.cell? ⟨o, 1, none⟩ = some (.string z2) ∧ W'.cell? ⟨o, 2, none⟩ = some (.string z3) := by
  obtain ⟨h0, h1, h2, h3, h4, h5, h6, h7, h8⟩ := h
  exact ⟨(own_cells hb _ (World.block_lt_of_cell? _ _ h0) _).1.trans h0, (own_cells hb _ (World.block_lt_of_cell? _ _ h1) _).1.trans h1, (own_cells hb _ (World.block_lt_of_cell? _ _ h2) _).1.trans h2, (own_cells hb _ (World.block_lt_of_cell? _ _ h3) _).1.trans h3, (own_cells hb _ (World.block_lt_of_cell? _ _ h4) _).1.trans h4, (own_cells hb _ (World.block_lt_of_cell? _ _ h5) _).1.trans h5, (own_cells hb _ (World.block_lt_of_cell? _ _ h6) _).1.trans h6, (own_cells hb _ (World.block_lt_of_cell? _ _ h7) _).1.trans h7, (own_cells hb _ (World.block_lt_of_cell? _ _ h8) _).1.trans h8⟩
theorem half {x1 x2 x3 y1 y2 y3 : ByteArray} {p q s t : Nat} {W : World} (h : W.cell? ⟨p, 0, none⟩ = some (.string x1) ∧ W.cell? ⟨p, 1, none⟩ = some (.string x2) ∧ W.cell? ⟨p, 2, none⟩ = some (.string x3) ∧ W.cell? ⟨q, 0, none⟩ = some (.string y1) ∧ W.cell? ⟨q, 1, none⟩ = some (.string y2) ∧ W.cell? ⟨q, 2, none⟩ = some (.string y3) ∧ W.cell? ⟨s, 0, none⟩ = some (.string x1) ∧ W.cell? ⟨s, 1, none⟩ = some (.string x2) ∧ W.cell? ⟨s, 2, none⟩ = some (.string x3) ∧ W.cell? ⟨t, 0, none⟩ = some (.string y1) ∧ W.cell? ⟨t, 1, none⟩ = some (.string y2) ∧ W.cell? ⟨t, 2, none⟩ = some (.string y3)) : W.cell? ⟨p, 0, none⟩ = some (.string x1) ∧ W.cell? ⟨p, 1, none⟩ = some (.string x2) ∧ W.cell? ⟨p, 2, none⟩ = some (.string x3) ∧ W.cell? ⟨q, 0, none⟩ = some (.string y1) ∧ W.cell? ⟨q, 1, none⟩ = some (.string y2) ∧ W.cell? ⟨q, 2, none⟩ = some (.string y3) :=
  ⟨h.1, h.2.1, h.2.2.1, h.2.2.2.1, h.2.2.2.2.1, h.2.2.2.2.2.1⟩
theorem xy_of {x1 x2 x3 y1 y2 y3 z1 z2 z3 : ByteArray} {p q o : Nat} {W : World} (h : W.cell? ⟨p, 0, none⟩ = some (.string x1) ∧ W.cell? ⟨p, 1, none⟩ = some (.string x2) ∧ W.cell? ⟨p, 2, none⟩ = some (.string x3) ∧ W.cell? ⟨q, 0, none⟩ = some (.string y1) ∧ W.cell? ⟨q, 1, none⟩ = some (.string y2) ∧ W.cell? ⟨q, 2, none⟩ = some (.string y3) ∧ W.cell? ⟨o, 0, none⟩ = some (.string z1) ∧ W.cell? ⟨o, 1, none⟩ = some (.string z2) ∧ W.cell? ⟨o, 2, none⟩ = some (.string z3)) : W.cell? ⟨p, 0, none⟩ = some (.string x1) ∧ W.cell? ⟨p, 1, none⟩ = some (.string x2) ∧ W.cell? ⟨p, 2, none⟩ = some (.string x3) ∧ W.cell? ⟨q, 0, none⟩ = some (.string y1) ∧ W.cell? ⟨q, 1, none⟩ = some (.string y2) ∧ W.cell? ⟨q, 2, none⟩ = some (.string y3) :=
  ⟨h.1, h.2.1, h.2.2.1, h.2.2.2.1, h.2.2.2.2.1, h.2.2.2.2.2.1⟩
theorem cg_v (a b c d e f : ByteArray) (n : Int) (w : World) (h : cmpG a b c d e f = n) :
    Calls Try.prog 26 #[.agg #[.string a, .string b, .string c], .agg #[.string d, .string e, .string f]] w fun r w' => r = .returned (.int .i64 n) ∧ Below w.heap.size w w' := by
  have q := compareGoal_any a b c d e f w; rw [h] at q; exact q
theorem cs_v (a b c d e f : ByteArray) (n : Int) (w : World) (h : cmpG a b c d e f = n) :
    Calls Try.prog 28 #[.agg #[.string a, .string b, .string c], .agg #[.string d, .string e, .string f]] w fun r w' => r = .returned (.int .i64 n) ∧ Below w.heap.size w w' := by
  have q := compareSubject_any a b c d e f w; rw [h] at q; exact q
theorem le_max {s : ByteArray} (h : s.size ≤ 40) : s.size ≤ maxLen := Nat.le_trans h (by decide)
theorem rcg_v (a b c d e f : ByteArray) (n : Int) (w : World) (h : cmpG a b c d e f = n) (ha : a.size ≤ 40) (hb : b.size ≤ 40) (hc : c.size ≤ 40) (hd : d.size ≤ 40) (he : e.size ≤ 40) (hf : f.size ≤ 40) :
    Calls Try.prog 27 #[.agg #[.string a, .string b, .string c], .agg #[.string d, .string e, .string f]] w fun r w' => r = .returned (.int .i64 n) ∧ Below w.heap.size w w' := by
  have q := rcompareGoal_any a b c d e f w (le_max ha) (le_max hb) (le_max hc) (le_max hd) (le_max he) (le_max hf); rw [h] at q; exact q
theorem rcs_v (a b c d e f : ByteArray) (n : Int) (w : World) (h : cmpG a b c d e f = n) (ha : a.size ≤ 40) (hb : b.size ≤ 40) (hc : c.size ≤ 40) (hd : d.size ≤ 40) (he : e.size ≤ 40) (hf : f.size ≤ 40) :
    Calls Try.prog 29 #[.agg #[.string a, .string b, .string c], .agg #[.string d, .string e, .string f]] w fun r w' => r = .returned (.int .i64 n) ∧ Below w.heap.size w w' := by
  have q := rcompareSubject_any a b c d e f w (le_max ha) (le_max hb) (le_max hc) (le_max hd) (le_max he) (le_max hf); rw [h] at q; exact q
theorem rcompare_s (a b c d : ByteArray) (w : World) (ha : a.size ≤ 40) (hb : b.size ≤ 40) (hc : c.size ≤ 40) (hd : d.size ≤ 40) :
    Calls Try.prog 31 #[.agg #[.string a, .string b], .agg #[.string c, .string d]] w fun e w' => e = .returned (.int .i64 (cmpO a b c d)) ∧ Below w.heap.size w w' := rcompare_any a b c d w (le_max ha) (le_max hb) (le_max hc) (le_max hd)

/-- the arrays, by their number -/
def arr (l : List (ByteArray × ByteArray × ByteArray)) (i : Nat) : ByteArray × ByteArray × ByteArray := l.getD i (⟨#[]⟩, ⟨#[]⟩, ⟨#[]⟩)
/-- the slice's cells: three for each array -/
def Rows3 (l : List (ByteArray × ByteArray × ByteArray)) (B : Nat) (W : World) : Prop :=
  (∀ i, i < 3 → W.cell? ⟨B, i * 3, none⟩ = some (.string (arr l i).1) ∧ W.cell? ⟨B, i * 3 + 1, none⟩ = some (.string (arr l i).2.1) ∧ W.cell? ⟨B, i * 3 + 2, none⟩ = some (.string (arr l i).2.2)) ∧ B < W.heap.size ∧ ∀ i, i < 3 → (arr l i).1.size ≤ 40 ∧ (arr l i).2.1.size ≤ 40 ∧ (arr l i).2.2.size ≤ 40

set_option maxRecDepth 100000 in
set_option maxHeartbeats 8000000 in
theorem order_main_walk (a b c d e f x y z : ByteArray) (w : World) (ha : a.size ≤ 40) (hb : b.size ≤ 40) (hc : c.size ≤ 40) (hd : d.size ≤ 40) (he : e.size ≤ 40) (hf : f.size ≤ 40) (hx : x.size ≤ 40) (hy : y.size ≤ 40) (hz : z.size ≤ 40) :
    Calls Try.prog 5 #[.agg #[.string a, .string b, .string c], .agg #[.string d, .string e, .string f], .agg #[.string x, .string y, .string z]] w fun r w' => r = .returned (.bool true) ∧ Below w.heap.size w w' := by
  have H : Hid ([a, b, c, d, e, f, x, y, z].all sh = true) := by simp [Hid, sh, ha, hb, hc, hd, he, hf, hx, hy, hz]
  have la : Hid (∀ s : ByteArray, s.size ≤ 40 → s.size ≤ maxLen) := fun s h => Nat.le_trans h (by decide)
  go_enter Try.func5, Try.ntmps5
  go_wp2_with fail
  refine (short9 a b c d e f x y z true _ _ (la.out _ ha) (la.out _ hb) (la.out _ hc) (la.out _ hd) (la.out _ he) (la.out _ hf) (la.out _ hx) (la.out _ hy) (la.out _ hz) (by go_simp) (by go_simp) (by go_simp) (by go_simp) (by go_simp) (by go_simp) (by go_simp) (by go_simp) (by go_simp) H.out).mono ?_
  rintro r w' ⟨rfl, rfl⟩
  go_upto_region 4 with fail
  have hR : Hid (Rows3 [(a, b, c), (d, e, f), (x, y, z)] (w.heap.size + 1 + 1 + 1 + 1) (((((w.alloc (.cells #[.string a, .string b, .string c] 43)).alloc (.cells #[.string d, .string e, .string f] 43)).alloc (.cells #[.string x, .string y, .string z] 43)).alloc (.cells #[.string a, .string b, .string c, .string d, .string e, .string f, .string x, .string y, .string z] 9)).alloc (.cells #[.string a, .string b, .string c, .string d, .string e, .string f, .string x, .string y, .string z] 43))) := by
    refine ⟨fun i hi => ?_, by simp, fun i hi => ?_⟩
    · rcases (by omega : i = 0 ∨ i = 1 ∨ i = 2) with rfl | rfl | rfl
      all_goals exact ⟨(by go_simp; rfl), (by go_simp; rfl), (by go_simp; rfl)⟩
    · rcases (by omega : i = 0 ∨ i = 1 ∨ i = 2) with rfl | rfl | rfl
      · exact ⟨ha, hb, hc⟩
      · exact ⟨hd, he, hf⟩
      · exact ⟨hx, hy, hz⟩
  have hB : Below w.heap.size w (((((w.alloc (.cells #[.string a, .string b, .string c] 43)).alloc (.cells #[.string d, .string e, .string f] 43)).alloc (.cells #[.string x, .string y, .string z] 43)).alloc (.cells #[.string a, .string b, .string c, .string d, .string e, .string f, .string x, .string y, .string z] 9)).alloc (.cells #[.string a, .string b, .string c, .string d, .string e, .string f, .string x, .string y, .string z] 43)) := g_alloc (g_alloc (g_alloc (g_alloc (g_alloc g_refl _) _) _) _) _
  generalize (((((w.alloc (.cells #[.string a, .string b, .string c] 43)).alloc (.cells #[.string d, .string e, .string f] 43)).alloc (.cells #[.string x, .string y, .string z] 43)).alloc (.cells #[.string a, .string b, .string c, .string d, .string e, .string f, .string x, .string y, .string z] 9)).alloc (.cells #[.string a, .string b, .string c, .string d, .string e, .string f, .string x, .string y, .string z] 43)) = W0 at *
  generalize [(a, b, c), (d, e, f), (x, y, z)] = l at *
  have hB0 : w.heap.size + 1 + 1 + 1 + 1 = w.heap.size + 1 + 1 + 1 + 1 := rfl
  generalize w.heap.size + 1 + 1 + 1 + 1 = B at *
  clear hB0 H la ha hb hc hd he hf hx hy hz
  go_wp2_with fail
  go_loopw [8] (fun si wr => ∃ i : Nat, i ≤ 3 ∧ si = .int .i64 i ∧ Below W0.heap.size W0 wr) (fun si _ => 3 - (intOf si).toNat)
  case atStart => exact ⟨0, by omega, rfl, g_refl⟩
  case round =>
    obtain ⟨i, hi3, rfl, hw⟩ := hrel
    by_cases hi : i < 3
    · have i1 : (0 : Int) ≤ (i : Int) := by omega
      have i2 : (i : Int) < 3 := by omega
      go_wp2_with fail
      go_loopw [9] (fun sk wr => ∃ k : Nat, k ≤ 3 ∧ sk = .int .i64 k ∧ Below W0.heap.size W0 wr) (fun sk _ => 3 - (intOf sk).toNat)
      case atStart => exact ⟨0, by omega, rfl, hw⟩
      case round =>
        obtain ⟨k, hk3, rfl, hwk⟩ := hrel
        by_cases hk : k < 3
        · have k1 : (0 : Int) ≤ (k : Int) := by omega
          have k2 : (k : Int) < 3 := by omega
          obtain ⟨x1, x2, x3, qx⟩ : ∃ x1 x2 x3, arr l i = (x1, x2, x3) := ⟨_, _, _, rfl⟩
          have cx := hR.out.1 i hi; have sx := hR.out.2.2 i hi; rw [qx] at cx sx; clear qx
          obtain ⟨sx1, sx2, sx3⟩ := sx
          have x1c : wr.cell? ⟨B, i * 3, none⟩ = some (.string x1) := (own_cells hwk B hR.out.2.1 _).1.trans cx.1
          have x2c : wr.cell? ⟨B, i * 3 + 1, none⟩ = some (.string x2) := (own_cells hwk B hR.out.2.1 _).1.trans cx.2.1
          have x3c : wr.cell? ⟨B, i * 3 + 2, none⟩ = some (.string x3) := (own_cells hwk B hR.out.2.1 _).1.trans cx.2.2
          clear cx
          obtain ⟨y1, y2, y3, qy⟩ : ∃ y1 y2 y3, arr l k = (y1, y2, y3) := ⟨_, _, _, rfl⟩
          have cy := hR.out.1 k hk; have sy := hR.out.2.2 k hk; rw [qy] at cy sy; clear qy
          obtain ⟨sy1, sy2, sy3⟩ := sy
          have y1c : wr.cell? ⟨B, k * 3, none⟩ = some (.string y1) := (own_cells hwk B hR.out.2.1 _).1.trans cy.1
          have y2c : wr.cell? ⟨B, k * 3 + 1, none⟩ = some (.string y2) := (own_cells hwk B hR.out.2.1 _).1.trans cy.2.1
          have y3c : wr.cell? ⟨B, k * 3 + 2, none⟩ = some (.string y3) := (own_cells hwk B hR.out.2.1 _).1.trans cy.2.2
          clear cy
          go_upto_region 10 with fail
          go_region_held3 (fun w' => w'.cell? ⟨B, i * 3, none⟩ = some (.string x1) ∧ w'.cell? ⟨B, i * 3 + 1, none⟩ = some (.string x2) ∧ w'.cell? ⟨B, i * 3 + 2, none⟩ = some (.string x3)) (go_keep)
            (fail)
          go_upto_region 11 with fail
          go_region_held3 (fun w' => w'.cell? ⟨B, k * 3, none⟩ = some (.string y1) ∧ w'.cell? ⟨B, k * 3 + 1, none⟩ = some (.string y2) ∧ w'.cell? ⟨B, k * 3 + 2, none⟩ = some (.string y3)) (go_keep)
            (fail)
          go_upto_region 12 with fail
          clear x1c x2c x3c y1c y2c y3c
          go_cut [12, 13] (fun s12 s13 wx => ∃ s t : Nat, s12 = .pointer (some ⟨s, 0, none⟩) ∧ s13 = .pointer (some ⟨t, 0, none⟩) ∧ (wx.cell? ⟨wr.heap.size, 0, none⟩ = some (.string x1) ∧ wx.cell? ⟨wr.heap.size, 1, none⟩ = some (.string x2) ∧ wx.cell? ⟨wr.heap.size, 2, none⟩ = some (.string x3) ∧ wx.cell? ⟨wr.heap.size + 1, 0, none⟩ = some (.string y1) ∧ wx.cell? ⟨wr.heap.size + 1, 1, none⟩ = some (.string y2) ∧ wx.cell? ⟨wr.heap.size + 1, 2, none⟩ = some (.string y3) ∧ wx.cell? ⟨s, 0, none⟩ = some (.string x1) ∧ wx.cell? ⟨s, 1, none⟩ = some (.string x2) ∧ wx.cell? ⟨s, 2, none⟩ = some (.string x3) ∧ wx.cell? ⟨t, 0, none⟩ = some (.string y1) ∧ wx.cell? ⟨t, 1, none⟩ = some (.string y2) ∧ wx.cell? ⟨t, 2, none⟩ = some (.string y3)) ∧ Below W0.heap.size W0 wx)
          case first =>
            as_aux_lemma =>
              go_region_held3 (fun w' => w'.cell? ⟨wr.heap.size, 0, none⟩ = some (.string x1) ∧ w'.cell? ⟨wr.heap.size, 1, none⟩ = some (.string x2) ∧ w'.cell? ⟨wr.heap.size, 2, none⟩ = some (.string x3) ∧ w'.cell? ⟨wr.heap.size + 1, 0, none⟩ = some (.string y1) ∧ w'.cell? ⟨wr.heap.size + 1, 1, none⟩ = some (.string y2) ∧ w'.cell? ⟨wr.heap.size + 1, 2, none⟩ = some (.string y3)) (go_keep)
                (fail)
              all_goals
                go_wp2_with fail
                go_meet
                exact ⟨_, _, rfl, rfl, ⟨by go_simp, by go_simp, by go_simp, by go_simp, by go_simp, by go_simp, by go_simp, by go_simp, by go_simp, by go_simp, by go_simp, by go_simp⟩, by repeat (first | exact hwk | refine g_drew ?_ | refine g_alloc ?_ _)⟩
          case rest =>
            obtain ⟨s, t, rfl, rfl, hS, hB1⟩ := hcut
            generalize wr.heap.size + 1 = q at *
            generalize wr.heap.size = p at *
            obtain ⟨n, hn⟩ : ∃ n, cmpG x1 x2 x3 y1 y2 y3 = n := ⟨_, rfl⟩
            have hrg : -1 ≤ n ∧ n ≤ 1 := hn ▸ cmpG_range x1 x2 x3 y1 y2 y3
            obtain ⟨n1, n2⟩ := hrg
            have HN := hid hn; clear hn
            go_wp2_with fail
            refine (cg_v x1 x2 x3 y1 y2 y3 n _ HN.out).mono ?_
            rintro r w' ⟨rfl, hv⟩
            replace hS := keep_xyst hv hS
            replace hB1 := g_trans hB1 hv
            clear hv
            go_upto_region 14 with fail
            go_cut [140] (fun s140 wx => s140 = .bool false ∧ (wx.cell? ⟨p, 0, none⟩ = some (.string x1) ∧ wx.cell? ⟨p, 1, none⟩ = some (.string x2) ∧ wx.cell? ⟨p, 2, none⟩ = some (.string x3) ∧ wx.cell? ⟨q, 0, none⟩ = some (.string y1) ∧ wx.cell? ⟨q, 1, none⟩ = some (.string y2) ∧ wx.cell? ⟨q, 2, none⟩ = some (.string y3)) ∧ Below W0.heap.size W0 wx)
            case first =>
              by_cases hz : n = 0
              · as_aux_lemma =>
                  have HA := hid (show cmpG y1 y2 y3 x1 x2 x3 = -n by rw [cmpG_anti, HN.out])
                  have hz1 : (n == 0) = true := beq_iff_eq.2 hz
                  have e1 : IntKind.i64.wrap (- -n) = n := by rw [Int.neg_neg]; exact IntWalk.i64_in _ (by omega)
                  have e2 : IntKind.i64.wrap n = n := IntWalk.i64_in _ (by omega)
                  have ez := cmpG_zero (HN.out.trans hz)
                  clear hz
                  obtain ⟨z1, z2, z3⟩ := ez
                  subst z1 z2 z3
                  go_region_held3 (fun w' => w'.cell? ⟨p, 0, none⟩ = some (.string x1) ∧ w'.cell? ⟨p, 1, none⟩ = some (.string x2) ∧ w'.cell? ⟨p, 2, none⟩ = some (.string x3) ∧ w'.cell? ⟨q, 0, none⟩ = some (.string x1) ∧ w'.cell? ⟨q, 1, none⟩ = some (.string x2) ∧ w'.cell? ⟨q, 2, none⟩ = some (.string x3) ∧ w'.cell? ⟨s, 0, none⟩ = some (.string x1) ∧ w'.cell? ⟨s, 1, none⟩ = some (.string x2) ∧ w'.cell? ⟨s, 2, none⟩ = some (.string x3) ∧ w'.cell? ⟨t, 0, none⟩ = some (.string x1) ∧ w'.cell? ⟨t, 1, none⟩ = some (.string x2) ∧ w'.cell? ⟨t, 2, none⟩ = some (.string x3)) (first | assumption | exact keep_xyst (by assumption) (by assumption))
                    (first | (go_at_call 27; refine (rcg_v _ _ _ _ _ _ n _ HN.out (by assumption) (by assumption) (by assumption) (by assumption) (by assumption) (by assumption)).mono ?_; rintro r w' ⟨rfl, h1⟩) | (go_at_call 26; refine (cg_v _ _ _ _ _ _ (-n) _ HA.out).mono ?_; rintro r w' ⟨rfl, h2⟩) | (go_at_call 28; refine (cs_v _ _ _ _ _ _ n _ HN.out).mono ?_; rintro r w' ⟨rfl, h3⟩) | (go_at_call 29; refine (rcs_v _ _ _ _ _ _ n _ HN.out (by assumption) (by assumption) (by assumption) (by assumption) (by assumption) (by assumption)).mono ?_; rintro r w' ⟨rfl, h4⟩) | (go_at_call 30; refine (compare_any _ _ _ _ _).mono ?_; rintro r w' ⟨rfl, h5⟩) | (go_at_call 31; refine (rcompare_s _ _ _ _ _ (by assumption) (by assumption) (by assumption) (by assumption)).mono ?_; rintro r w' ⟨rfl, h6⟩))
                  go_wp2
                  go_meet
                  exact ⟨rfl, half (by assumption), g_trans (g_trans (g_trans (g_trans (g_trans (g_trans (g_drew hB1) h1) h2) h3) h4) h5) h6⟩
              · have HA := hid (show cmpG y1 y2 y3 x1 x2 x3 = -n by rw [cmpG_anti, HN.out])
                have hz1 : (n == 0) = false := beq_eq_false_iff_ne.2 hz
                have e1 : IntKind.i64.wrap (- -n) = n := by rw [Int.neg_neg]; exact IntWalk.i64_in _ (by omega)
                have e2 : IntKind.i64.wrap n = n := IntWalk.i64_in _ (by omega)
                by_cases v1 : x1 = y1
                · by_cases v2 : x2 = y2
                  · by_cases v3 : x3 = y3
                    · exact absurd (by rw [← HN.out, v1, v2, v3]; exact cmpG_self _ _ _) hz
                    · as_aux_lemma =>
                        have q1 := toList_ne v3
                        clear v3 hz
                        subst v1 v2
                        go_region_held3 (fun w' => w'.cell? ⟨p, 0, none⟩ = some (.string x1) ∧ w'.cell? ⟨p, 1, none⟩ = some (.string x2) ∧ w'.cell? ⟨p, 2, none⟩ = some (.string x3) ∧ w'.cell? ⟨q, 0, none⟩ = some (.string x1) ∧ w'.cell? ⟨q, 1, none⟩ = some (.string x2) ∧ w'.cell? ⟨q, 2, none⟩ = some (.string y3) ∧ w'.cell? ⟨s, 0, none⟩ = some (.string x1) ∧ w'.cell? ⟨s, 1, none⟩ = some (.string x2) ∧ w'.cell? ⟨s, 2, none⟩ = some (.string x3) ∧ w'.cell? ⟨t, 0, none⟩ = some (.string x1) ∧ w'.cell? ⟨t, 1, none⟩ = some (.string x2) ∧ w'.cell? ⟨t, 2, none⟩ = some (.string y3)) (first | assumption | exact keep_xyst (by assumption) (by assumption))
                          (first | (go_at_call 27; refine (rcg_v _ _ _ _ _ _ n _ HN.out (by assumption) (by assumption) (by assumption) (by assumption) (by assumption) (by assumption)).mono ?_; rintro r w' ⟨rfl, h1⟩) | (go_at_call 26; refine (cg_v _ _ _ _ _ _ (-n) _ HA.out).mono ?_; rintro r w' ⟨rfl, h2⟩) | (go_at_call 28; refine (cs_v _ _ _ _ _ _ n _ HN.out).mono ?_; rintro r w' ⟨rfl, h3⟩) | (go_at_call 29; refine (rcs_v _ _ _ _ _ _ n _ HN.out (by assumption) (by assumption) (by assumption) (by assumption) (by assumption) (by assumption)).mono ?_; rintro r w' ⟨rfl, h4⟩) | (go_at_call 30; refine (compare_any _ _ _ _ _).mono ?_; rintro r w' ⟨rfl, h5⟩) | (go_at_call 31; refine (rcompare_s _ _ _ _ _ (by assumption) (by assumption) (by assumption) (by assumption)).mono ?_; rintro r w' ⟨rfl, h6⟩))
                        go_wp2
                        go_meet
                        exact ⟨rfl, half (by assumption), g_trans (g_trans (g_trans (g_trans (g_trans (g_trans (g_drew hB1) h1) h2) h3) h4) h5) h6⟩
                  · as_aux_lemma =>
                      have q1 := toList_ne v2
                      clear v2 hz
                      subst v1
                      go_region_held3 (fun w' => w'.cell? ⟨p, 0, none⟩ = some (.string x1) ∧ w'.cell? ⟨p, 1, none⟩ = some (.string x2) ∧ w'.cell? ⟨p, 2, none⟩ = some (.string x3) ∧ w'.cell? ⟨q, 0, none⟩ = some (.string x1) ∧ w'.cell? ⟨q, 1, none⟩ = some (.string y2) ∧ w'.cell? ⟨q, 2, none⟩ = some (.string y3) ∧ w'.cell? ⟨s, 0, none⟩ = some (.string x1) ∧ w'.cell? ⟨s, 1, none⟩ = some (.string x2) ∧ w'.cell? ⟨s, 2, none⟩ = some (.string x3) ∧ w'.cell? ⟨t, 0, none⟩ = some (.string x1) ∧ w'.cell? ⟨t, 1, none⟩ = some (.string y2) ∧ w'.cell? ⟨t, 2, none⟩ = some (.string y3)) (first | assumption | exact keep_xyst (by assumption) (by assumption))
                        (first | (go_at_call 27; refine (rcg_v _ _ _ _ _ _ n _ HN.out (by assumption) (by assumption) (by assumption) (by assumption) (by assumption) (by assumption)).mono ?_; rintro r w' ⟨rfl, h1⟩) | (go_at_call 26; refine (cg_v _ _ _ _ _ _ (-n) _ HA.out).mono ?_; rintro r w' ⟨rfl, h2⟩) | (go_at_call 28; refine (cs_v _ _ _ _ _ _ n _ HN.out).mono ?_; rintro r w' ⟨rfl, h3⟩) | (go_at_call 29; refine (rcs_v _ _ _ _ _ _ n _ HN.out (by assumption) (by assumption) (by assumption) (by assumption) (by assumption) (by assumption)).mono ?_; rintro r w' ⟨rfl, h4⟩) | (go_at_call 30; refine (compare_any _ _ _ _ _).mono ?_; rintro r w' ⟨rfl, h5⟩) | (go_at_call 31; refine (rcompare_s _ _ _ _ _ (by assumption) (by assumption) (by assumption) (by assumption)).mono ?_; rintro r w' ⟨rfl, h6⟩))
                      go_wp2
                      go_meet
                      exact ⟨rfl, half (by assumption), g_trans (g_trans (g_trans (g_trans (g_trans (g_trans (g_drew hB1) h1) h2) h3) h4) h5) h6⟩
                · as_aux_lemma =>
                    have q1 := toList_ne v1
                    clear v1 hz
                    go_region_held3 (fun w' => w'.cell? ⟨p, 0, none⟩ = some (.string x1) ∧ w'.cell? ⟨p, 1, none⟩ = some (.string x2) ∧ w'.cell? ⟨p, 2, none⟩ = some (.string x3) ∧ w'.cell? ⟨q, 0, none⟩ = some (.string y1) ∧ w'.cell? ⟨q, 1, none⟩ = some (.string y2) ∧ w'.cell? ⟨q, 2, none⟩ = some (.string y3) ∧ w'.cell? ⟨s, 0, none⟩ = some (.string x1) ∧ w'.cell? ⟨s, 1, none⟩ = some (.string x2) ∧ w'.cell? ⟨s, 2, none⟩ = some (.string x3) ∧ w'.cell? ⟨t, 0, none⟩ = some (.string y1) ∧ w'.cell? ⟨t, 1, none⟩ = some (.string y2) ∧ w'.cell? ⟨t, 2, none⟩ = some (.string y3)) (first | assumption | exact keep_xyst (by assumption) (by assumption))
                      (first | (go_at_call 27; refine (rcg_v _ _ _ _ _ _ n _ HN.out (by assumption) (by assumption) (by assumption) (by assumption) (by assumption) (by assumption)).mono ?_; rintro r w' ⟨rfl, h1⟩) | (go_at_call 26; refine (cg_v _ _ _ _ _ _ (-n) _ HA.out).mono ?_; rintro r w' ⟨rfl, h2⟩) | (go_at_call 28; refine (cs_v _ _ _ _ _ _ n _ HN.out).mono ?_; rintro r w' ⟨rfl, h3⟩) | (go_at_call 29; refine (rcs_v _ _ _ _ _ _ n _ HN.out (by assumption) (by assumption) (by assumption) (by assumption) (by assumption) (by assumption)).mono ?_; rintro r w' ⟨rfl, h4⟩) | (go_at_call 30; refine (compare_any _ _ _ _ _).mono ?_; rintro r w' ⟨rfl, h5⟩) | (go_at_call 31; refine (rcompare_s _ _ _ _ _ (by assumption) (by assumption) (by assumption) (by assumption)).mono ?_; rintro r w' ⟨rfl, h6⟩))
                    go_wp2
                    go_meet
                    exact ⟨rfl, half (by assumption), g_trans (g_trans (g_trans (g_trans (g_trans (g_trans (g_drew hB1) h1) h2) h3) h4) h5) h6⟩
            case rest =>
              as_aux_lemma =>
                obtain ⟨rfl, hS2, hB2⟩ := hcut
                clear hS hB1
                go_wp2_with fail
                go_loopw [15] (fun sm wr => ∃ m : Nat, m ≤ 3 ∧ sm = .int .i64 m ∧ (wr.cell? ⟨p, 0, none⟩ = some (.string x1) ∧ wr.cell? ⟨p, 1, none⟩ = some (.string x2) ∧ wr.cell? ⟨p, 2, none⟩ = some (.string x3) ∧ wr.cell? ⟨q, 0, none⟩ = some (.string y1) ∧ wr.cell? ⟨q, 1, none⟩ = some (.string y2) ∧ wr.cell? ⟨q, 2, none⟩ = some (.string y3)) ∧ Below W0.heap.size W0 wr) (fun sm _ => 3 - (intOf sm).toNat)
                case atStart => exact ⟨0, by omega, rfl, hS2, hB2⟩
                case round =>
                  obtain ⟨m, hm3, rfl, hS3, hwm⟩ := hrel
                  clear hS2 hB2
                  by_cases hm : m < 3
                  · have m1 : (0 : Int) ≤ (m : Int) := by omega
                    have m2 : (m : Int) < 3 := by omega
                    obtain ⟨z1, z2, z3, qz⟩ : ∃ z1 z2 z3, arr l m = (z1, z2, z3) := ⟨_, _, _, rfl⟩
                    have cz := hR.out.1 m hm; have sz := hR.out.2.2 m hm; rw [qz] at cz sz; clear qz
                    obtain ⟨sz1, sz2, sz3⟩ := sz
                    have z1c : wr.cell? ⟨B, m * 3, none⟩ = some (.string z1) := (own_cells hwm B hR.out.2.1 _).1.trans cz.1
                    have z2c : wr.cell? ⟨B, m * 3 + 1, none⟩ = some (.string z2) := (own_cells hwm B hR.out.2.1 _).1.trans cz.2.1
                    have z3c : wr.cell? ⟨B, m * 3 + 2, none⟩ = some (.string z3) := (own_cells hwm B hR.out.2.1 _).1.trans cz.2.2
                    clear cz
                    go_upto_region 19 with fail
                    go_region_held3 (fun w' => w'.cell? ⟨B, m * 3, none⟩ = some (.string z1) ∧ w'.cell? ⟨B, m * 3 + 1, none⟩ = some (.string z2) ∧ w'.cell? ⟨B, m * 3 + 2, none⟩ = some (.string z3)) (go_keep)
                      (fail)
                    go_upto_region 20 with fail
                    clear z1c z2c z3c
                    have hS4 : (wr.alloc (.cells #[.string z1, .string z2, .string z3] 28)).drew.cell? ⟨p, 0, none⟩ = some (.string x1) ∧ (wr.alloc (.cells #[.string z1, .string z2, .string z3] 28)).drew.cell? ⟨p, 1, none⟩ = some (.string x2) ∧ (wr.alloc (.cells #[.string z1, .string z2, .string z3] 28)).drew.cell? ⟨p, 2, none⟩ = some (.string x3) ∧ (wr.alloc (.cells #[.string z1, .string z2, .string z3] 28)).drew.cell? ⟨q, 0, none⟩ = some (.string y1) ∧ (wr.alloc (.cells #[.string z1, .string z2, .string z3] 28)).drew.cell? ⟨q, 1, none⟩ = some (.string y2) ∧ (wr.alloc (.cells #[.string z1, .string z2, .string z3] 28)).drew.cell? ⟨q, 2, none⟩ = some (.string y3) ∧ (wr.alloc (.cells #[.string z1, .string z2, .string z3] 28)).drew.cell? ⟨wr.heap.size, 0, none⟩ = some (.string z1) ∧ (wr.alloc (.cells #[.string z1, .string z2, .string z3] 28)).drew.cell? ⟨wr.heap.size, 1, none⟩ = some (.string z2) ∧ (wr.alloc (.cells #[.string z1, .string z2, .string z3] 28)).drew.cell? ⟨wr.heap.size, 2, none⟩ = some (.string z3) := by
                      obtain ⟨g1, g2, g3, g4, g5, g6⟩ := hS3
                      exact ⟨(World.cell?_alloc_lt _ _ _ (World.block_lt_of_cell? _ _ g1)).trans g1, (World.cell?_alloc_lt _ _ _ (World.block_lt_of_cell? _ _ g2)).trans g2, (World.cell?_alloc_lt _ _ _ (World.block_lt_of_cell? _ _ g3)).trans g3, (World.cell?_alloc_lt _ _ _ (World.block_lt_of_cell? _ _ g4)).trans g4, (World.cell?_alloc_lt _ _ _ (World.block_lt_of_cell? _ _ g5)).trans g5, (World.cell?_alloc_lt _ _ _ (World.block_lt_of_cell? _ _ g6)).trans g6, by go_simp, by go_simp, by go_simp⟩
                    have hB4 : Below W0.heap.size W0 (wr.alloc (.cells #[.string z1, .string z2, .string z3] 28)).drew := g_drew (g_alloc hwm _)
                    clear hS3 hwm
                    generalize (wr.alloc (.cells #[.string z1, .string z2, .string z3] 28)).drew = W4 at *
                    generalize wr.heap.size = o at *
                    by_cases hn : n ≤ 0
                    · obtain ⟨u, hu⟩ : ∃ u, cmpG y1 y2 y3 z1 z2 z3 = u := ⟨_, rfl⟩
                      obtain ⟨v, hv⟩ : ∃ v, cmpG x1 x2 x3 z1 z2 z3 = v := ⟨_, rfl⟩
                      have HT : Hid (u ≤ 0 → v ≤ 0) := fun h => hv ▸ cmpG_trans (HN.out.symm ▸ hn) (hu.symm ▸ h)
                      have HU := hid hu; clear hu
                      have HV := hid hv; clear hv
                      by_cases hu0 : u ≤ 0
                      · have hv0 : ¬ 0 < v := Int.not_lt.2 (HT.out hu0)
                        clear HT
                        go_wp2_with fail
                        refine (cg_v y1 y2 y3 z1 z2 z3 u _ HU.out).mono ?_
                        rintro r w5 ⟨rfl, h5⟩
                        replace hS4 := keep_xyz h5 hS4
                        replace hB4 := g_trans hB4 h5
                        clear h5
                        go_wp2_with fail
                        refine (cg_v x1 x2 x3 z1 z2 z3 v _ HV.out).mono ?_
                        rintro r w6 ⟨rfl, h6⟩
                        replace hS4 := keep_xyz h6 hS4
                        replace hB4 := g_trans hB4 h6
                        clear h6
                        go_wp2
                        go_roundw
                        case rel => exact ⟨m + 1, by omega, by go_num, xy_of hS4, hB4⟩
                        case measure => simp [intOf]; omega
                      · clear HT
                        go_wp2_with fail
                        refine (cg_v y1 y2 y3 z1 z2 z3 u _ HU.out).mono ?_
                        rintro r w5 ⟨rfl, h5⟩
                        replace hS4 := keep_xyz h5 hS4
                        replace hB4 := g_trans hB4 h5
                        clear h5
                        go_wp2
                        go_roundw
                        case rel => exact ⟨m + 1, by omega, by go_num, xy_of hS4, hB4⟩
                        case measure => simp [intOf]; omega
                    · go_wp2
                      go_roundw
                      case rel => exact ⟨m + 1, by omega, by go_num, xy_of hS4, hB4⟩
                      case measure => simp [intOf]; omega
                  · have m2 : ¬ (m : Int) < 3 := by omega
                    go_wp2
                    go_roundw
                    case rel => exact ⟨k + 1, by omega, by go_num, hwm⟩
                    case measure => simp [intOf]; omega
        · have k2 : ¬ (k : Int) < 3 := by omega
          go_wp2
          go_roundw
          case rel => exact ⟨i + 1, by omega, by go_num, hwk⟩
          case measure => simp [intOf]; omega
    · have i2 : ¬ (i : Int) < 3 := by omega
      go_wp2_with fail
      refine (lives_any _).mono ?_
      rintro r w' ⟨rfl, hv⟩
      go_wp2
      go_ret
      exact ⟨rfl, g_trans (g_trans hB hw) hv⟩

theorem order_walk (a b c d e f x y z : ByteArray) (w : World) (ha : a.size ≤ maxLen) (hb : b.size ≤ maxLen) (hc : c.size ≤ maxLen) (hd : d.size ≤ maxLen) (he : e.size ≤ maxLen) (hf : f.size ≤ maxLen) (hx : x.size ≤ maxLen) (hy : y.size ≤ maxLen) (hz : z.size ≤ maxLen) :
    Calls Try.prog 5 #[.agg #[.string a, .string b, .string c], .agg #[.string d, .string e, .string f], .agg #[.string x, .string y, .string z]] w fun r w' => r = .returned (.bool true) ∧ Below w.heap.size w w' := by
  cases h : [a, b, c, d, e, f, x, y, z].all sh
  · exact order_long_walk a b c d e f x y z w ha hb hc hd he hf hx hy hz h
  · have h9 : a.size ≤ 40 ∧ b.size ≤ 40 ∧ c.size ≤ 40 ∧ d.size ≤ 40 ∧ e.size ≤ 40 ∧ f.size ≤ 40 ∧ x.size ≤ 40 ∧ y.size ≤ 40 ∧ z.size ≤ 40 := by simpa [sh] using h
    obtain ⟨z1, z2, z3, z4, z5, z6, z7, z8, z9⟩ := h9
    exact order_main_walk a b c d e f x y z w z1 z2 z3 z4 z5 z6 z7 z8 z9

end Go.Proofs.Ytickinkabcfkbaa
