/-
  THE CONTRACT of filters.Both.
-/
import Derived.Test.YtgfgfggoofjeeaaFOr
import Derived.Test.YtgfgfggoofjeeaaFOZ
import Derived.Test.YtgfgfggoofjeeaaFSel
namespace Go.Proofs.Ytgfgfggoofjeeaa
open Go.RowKit Go.Sort

/-- do two fields differ, both being there? -/
def clF (u v : ByteArray) : Bool := !u.toList.isEmpty && !v.toList.isEmpty && !decide (u = v)
/-- is there no filter of both? -/
def clash (f g : Fil) : Bool := clF f.a g.a || clF f.b g.b || clF f.c g.c || (f.x && g.x && !decide (f.d = g.d ∧ f.e = g.e ∧ f.f = g.f))
/-- the filter of both -/
def bothF (f g : Fil) : Fil := ⟨orS f.a g.a, orS f.b g.b, orS f.c g.c, (orU (f.d, f.e, f.f) (g.d, g.e, g.f)).1, (orU (f.d, f.e, f.f) (g.d, g.e, g.f)).2.1, (orU (f.d, f.e, f.f) (g.d, g.e, g.f)).2.2, f.x || g.x⟩
def bothR (f g : Fil) : Fil × Bool × Int := if orI (fchk f) (fchk g) = 0 then (if clash f g then (zF, false, 0) else (bothF f g, true, 0)) else (zF, false, orI (fchk f) (fchk g))
theorem bothR_err {f g : Fil} {n : Int} (h : orI (fchk f) (fchk g) = n) (h0 : ¬ n = 0) : bothR f g = (zF, false, n) := by unfold bothR; rw [h, if_neg h0]
theorem bothR_no {f g : Fil} (h : orI (fchk f) (fchk g) = 0) (k : clash f g = true) : bothR f g = (zF, false, 0) := by unfold bothR; rw [h, if_pos rfl, if_pos k]
theorem bothR_yes {f g : Fil} (h : orI (fchk f) (fchk g) = 0) (k : clash f g = false) : bothR f g = (bothF f g, true, 0) := by unfold bothR; rw [h, if_pos rfl, if_neg (by rw [k]; decide)]
theorem clF_cases (u v : ByteArray) : (u.toList.isEmpty = true ∧ clF u v = false) ∨ (u.toList.isEmpty = false ∧ v.toList.isEmpty = true ∧ clF u v = false) ∨ (u.toList.isEmpty = false ∧ v.toList.isEmpty = false ∧ (u.toList == v.toList) = true ∧ clF u v = false) ∨ (u.toList.isEmpty = false ∧ v.toList.isEmpty = false ∧ (u.toList == v.toList) = false ∧ clF u v = true) := by
  unfold clF
  rw [toList_beq]
  cases u.toList.isEmpty <;> cases v.toList.isEmpty <;> by_cases h : u = v <;> simp [h]
theorem clash_a {f g : Fil} (h : clF f.a g.a = true) : clash f g = true := by unfold clash; rw [h]; rfl
theorem clash_b {f g : Fil} (h : clF f.b g.b = true) : clash f g = true := by unfold clash; rw [h]; simp
theorem clash_c {f g : Fil} (h : clF f.c g.c = true) : clash f g = true := by unfold clash; rw [h]; simp
theorem clash_s {f g : Fil} {u : Bool} (ha : clF f.a g.a = false) (hb : clF f.b g.b = false) (hc : clF f.c g.c = false) (h : (f.x && g.x && !decide (f.d = g.d ∧ f.e = g.e ∧ f.f = g.f)) = u) : clash f g = u := by unfold clash; rw [ha, hb, hc, h]; rfl
def BothRet (f g : Fil) (w : World) (e : Ending) (w' : World) : Prop := e = .returned (.tuple #[valF (bothR f g).1, .bool (bothR f g).2.1, .int .i64 (bothR f g).2.2]) ∧ Below w.heap.size w w'

/-- the two filters, in their boxes -/
def FF (w : World) (b : Nat) (f g : Fil) : Prop := FB w b f ∧ FB w (b + 1) g
theorem ff_keep {b : Nat} {a0 a1 a2 a3 a4 a5 b0 b1 b2 b3 b4 b5 : ByteArray} {x y : Bool} {W W' : World} (hb : Below W.heap.size W W')
    (h : W.cell? ⟨b, 0, none⟩ = some (.string a0) ∧ W.cell? ⟨b, 1, none⟩ = some (.string a1) ∧ W.cell? ⟨b, 2, none⟩ = some (.string a2) ∧ W.cell? ⟨b, 3, none⟩ = some (.string a3) ∧ W.cell? ⟨b, 4, none⟩ = some (.string a4) ∧ W.cell? ⟨b, 5, none⟩ = some (.string a5) ∧ W.cell? ⟨b, 6, none⟩ = some (.bool x) ∧ W.cell? ⟨b + 1, 0, none⟩ = some (.string b0) ∧ W.cell? ⟨b + 1, 1, none⟩ = some (.string b1) ∧ W.cell? ⟨b + 1, 2, none⟩ = some (.string b2) ∧ W.cell? ⟨b + 1, 3, none⟩ = some (.string b3) ∧ W.cell? ⟨b + 1, 4, none⟩ = some (.string b4) ∧ W.cell? ⟨b + 1, 5, none⟩ = some (.string b5) ∧ W.cell? ⟨b + 1, 6, none⟩ = some (.bool y) ∧ b + 1 < W.heap.size) : W'.cell? ⟨b, 0, none⟩ = some (.string a0) ∧ W'.cell? ⟨b, 1, none⟩ = some (.string a1) ∧ W'.cell? ⟨b, 2, none⟩ = some (.string a2) ∧ W'.cell? ⟨b, 3, none⟩ = some (.string a3) ∧ W'.cell? ⟨b, 4, none⟩ = some (.string a4) ∧ W'.cell? ⟨b, 5, none⟩ = some (.string a5) ∧ W'.cell? ⟨b, 6, none⟩ = some (.bool x) ∧ W'.cell? ⟨b + 1, 0, none⟩ = some (.string b0) ∧ W'.cell? ⟨b + 1, 1, none⟩ = some (.string b1) ∧ W'.cell? ⟨b + 1, 2, none⟩ = some (.string b2) ∧ W'.cell? ⟨b + 1, 3, none⟩ = some (.string b3) ∧ W'.cell? ⟨b + 1, 4, none⟩ = some (.string b4) ∧ W'.cell? ⟨b + 1, 5, none⟩ = some (.string b5) ∧ W'.cell? ⟨b + 1, 6, none⟩ = some (.bool y) ∧ b + 1 < W'.heap.size := by
  obtain ⟨c0, c1, c2, c3, c4, c5, c6, d0, d1, d2, d3, d4, d5, d6, hs⟩ := h
  have o := own_cells hb b (by omega)
  have k := own_cells hb (b + 1) hs
  exact ⟨(o _).1.trans c0, (o _).1.trans c1, (o _).1.trans c2, (o _).1.trans c3, (o _).1.trans c4, (o _).1.trans c5, (o _).1.trans c6, (k _).1.trans d0, (k _).1.trans d1, (k _).1.trans d2, (k _).1.trans d3, (k _).1.trans d4, (k _).1.trans d5, (k _).1.trans d6, Nat.lt_of_lt_of_le hs hb.size⟩

set_option maxRecDepth 20000 in
set_option maxHeartbeats 1000000 in
theorem both_err (a b c d e f a' b' c' d' e' f' : ByteArray) (x y : Bool) (n : Int) (w : World) (hF : FitF ⟨a, b, c, d, e, f, x⟩) (hG : FitF ⟨a', b', c', d', e', f', y⟩) (hn : orI (fchk ⟨a, b, c, d, e, f, x⟩) (fchk ⟨a', b', c', d', e', f', y⟩) = n) (h0 : ¬ n = 0) :
    Calls Try.prog 8 #[.agg #[.string a, .string b, .string c, .string d, .string e, .string f, .bool x], .agg #[.string a', .string b', .string c', .string d', .string e', .string f', .bool y]] w fun r w' => r = .returned (.tuple #[.agg #[.string ⟨#[]⟩, .string ⟨#[]⟩, .string ⟨#[]⟩, .string ⟨#[]⟩, .string ⟨#[]⟩, .string ⟨#[]⟩, .bool false], .bool false, .int .i64 n]) ∧ Below w.heap.size w w' := by
  obtain ⟨n1, hn1⟩ : ∃ n, fchk ⟨a, b, c, d, e, f, x⟩ = n := ⟨_, rfl⟩
  obtain ⟨n2, hn2⟩ : ∃ n, fchk ⟨a', b', c', d', e', f', y⟩ = n := ⟨_, rfl⟩
  rw [hn1, hn2] at hn
  have H1 := hid hn1; clear hn1
  have H2 := hid hn2; clear hn2
  have HN := hid hn; clear hn
  have HF := hid hF; clear hF
  have HG := hid hG; clear hG
  have HOZ : Hid (OZ (((w.alloc (.cells #[.string a, .string b, .string c, .string d, .string e, .string f, .bool x] 35)).alloc (.cells #[.string a', .string b', .string c', .string d', .string e', .string f', .bool y] 35)).alloc (.cells #[.string ⟨#[]⟩, .string ⟨#[]⟩, .string ⟨#[]⟩, .string ⟨#[]⟩, .string ⟨#[]⟩, .string ⟨#[]⟩, .bool false] 35)) (w.heap.size + 1 + 1)) := hid (by simp only [OZ]; exact ⟨by go_simp, by go_simp, by go_simp, by go_simp, by go_simp, by go_simp, by go_simp, by go_simp, by go_simp, by go_simp, by go_simp, by go_simp, by go_simp, by go_simp, by simp⟩)
  have hS : (((w.alloc (.cells #[.string a, .string b, .string c, .string d, .string e, .string f, .bool x] 35)).alloc (.cells #[.string a', .string b', .string c', .string d', .string e', .string f', .bool y] 35)).alloc (.cells #[.string ⟨#[]⟩, .string ⟨#[]⟩, .string ⟨#[]⟩, .string ⟨#[]⟩, .string ⟨#[]⟩, .string ⟨#[]⟩, .bool false] 35)).cell? ⟨w.heap.size, 0, none⟩ = some (.string a) ∧ (((w.alloc (.cells #[.string a, .string b, .string c, .string d, .string e, .string f, .bool x] 35)).alloc (.cells #[.string a', .string b', .string c', .string d', .string e', .string f', .bool y] 35)).alloc (.cells #[.string ⟨#[]⟩, .string ⟨#[]⟩, .string ⟨#[]⟩, .string ⟨#[]⟩, .string ⟨#[]⟩, .string ⟨#[]⟩, .bool false] 35)).cell? ⟨w.heap.size, 1, none⟩ = some (.string b) ∧ (((w.alloc (.cells #[.string a, .string b, .string c, .string d, .string e, .string f, .bool x] 35)).alloc (.cells #[.string a', .string b', .string c', .string d', .string e', .string f', .bool y] 35)).alloc (.cells #[.string ⟨#[]⟩, .string ⟨#[]⟩, .string ⟨#[]⟩, .string ⟨#[]⟩, .string ⟨#[]⟩, .string ⟨#[]⟩, .bool false] 35)).cell? ⟨w.heap.size, 2, none⟩ = some (.string c) ∧ (((w.alloc (.cells #[.string a, .string b, .string c, .string d, .string e, .string f, .bool x] 35)).alloc (.cells #[.string a', .string b', .string c', .string d', .string e', .string f', .bool y] 35)).alloc (.cells #[.string ⟨#[]⟩, .string ⟨#[]⟩, .string ⟨#[]⟩, .string ⟨#[]⟩, .string ⟨#[]⟩, .string ⟨#[]⟩, .bool false] 35)).cell? ⟨w.heap.size, 3, none⟩ = some (.string d) ∧ (((w.alloc (.cells #[.string a, .string b, .string c, .string d, .string e, .string f, .bool x] 35)).alloc (.cells #[.string a', .string b', .string c', .string d', .string e', .string f', .bool y] 35)).alloc (.cells #[.string ⟨#[]⟩, .string ⟨#[]⟩, .string ⟨#[]⟩, .string ⟨#[]⟩, .string ⟨#[]⟩, .string ⟨#[]⟩, .bool false] 35)).cell? ⟨w.heap.size, 4, none⟩ = some (.string e) ∧ (((w.alloc (.cells #[.string a, .string b, .string c, .string d, .string e, .string f, .bool x] 35)).alloc (.cells #[.string a', .string b', .string c', .string d', .string e', .string f', .bool y] 35)).alloc (.cells #[.string ⟨#[]⟩, .string ⟨#[]⟩, .string ⟨#[]⟩, .string ⟨#[]⟩, .string ⟨#[]⟩, .string ⟨#[]⟩, .bool false] 35)).cell? ⟨w.heap.size, 5, none⟩ = some (.string f) ∧ (((w.alloc (.cells #[.string a, .string b, .string c, .string d, .string e, .string f, .bool x] 35)).alloc (.cells #[.string a', .string b', .string c', .string d', .string e', .string f', .bool y] 35)).alloc (.cells #[.string ⟨#[]⟩, .string ⟨#[]⟩, .string ⟨#[]⟩, .string ⟨#[]⟩, .string ⟨#[]⟩, .string ⟨#[]⟩, .bool false] 35)).cell? ⟨w.heap.size, 6, none⟩ = some (.bool x) ∧ (((w.alloc (.cells #[.string a, .string b, .string c, .string d, .string e, .string f, .bool x] 35)).alloc (.cells #[.string a', .string b', .string c', .string d', .string e', .string f', .bool y] 35)).alloc (.cells #[.string ⟨#[]⟩, .string ⟨#[]⟩, .string ⟨#[]⟩, .string ⟨#[]⟩, .string ⟨#[]⟩, .string ⟨#[]⟩, .bool false] 35)).cell? ⟨w.heap.size + 1, 0, none⟩ = some (.string a') ∧ (((w.alloc (.cells #[.string a, .string b, .string c, .string d, .string e, .string f, .bool x] 35)).alloc (.cells #[.string a', .string b', .string c', .string d', .string e', .string f', .bool y] 35)).alloc (.cells #[.string ⟨#[]⟩, .string ⟨#[]⟩, .string ⟨#[]⟩, .string ⟨#[]⟩, .string ⟨#[]⟩, .string ⟨#[]⟩, .bool false] 35)).cell? ⟨w.heap.size + 1, 1, none⟩ = some (.string b') ∧ (((w.alloc (.cells #[.string a, .string b, .string c, .string d, .string e, .string f, .bool x] 35)).alloc (.cells #[.string a', .string b', .string c', .string d', .string e', .string f', .bool y] 35)).alloc (.cells #[.string ⟨#[]⟩, .string ⟨#[]⟩, .string ⟨#[]⟩, .string ⟨#[]⟩, .string ⟨#[]⟩, .string ⟨#[]⟩, .bool false] 35)).cell? ⟨w.heap.size + 1, 2, none⟩ = some (.string c') ∧ (((w.alloc (.cells #[.string a, .string b, .string c, .string d, .string e, .string f, .bool x] 35)).alloc (.cells #[.string a', .string b', .string c', .string d', .string e', .string f', .bool y] 35)).alloc (.cells #[.string ⟨#[]⟩, .string ⟨#[]⟩, .string ⟨#[]⟩, .string ⟨#[]⟩, .string ⟨#[]⟩, .string ⟨#[]⟩, .bool false] 35)).cell? ⟨w.heap.size + 1, 3, none⟩ = some (.string d') ∧ (((w.alloc (.cells #[.string a, .string b, .string c, .string d, .string e, .string f, .bool x] 35)).alloc (.cells #[.string a', .string b', .string c', .string d', .string e', .string f', .bool y] 35)).alloc (.cells #[.string ⟨#[]⟩, .string ⟨#[]⟩, .string ⟨#[]⟩, .string ⟨#[]⟩, .string ⟨#[]⟩, .string ⟨#[]⟩, .bool false] 35)).cell? ⟨w.heap.size + 1, 4, none⟩ = some (.string e') ∧ (((w.alloc (.cells #[.string a, .string b, .string c, .string d, .string e, .string f, .bool x] 35)).alloc (.cells #[.string a', .string b', .string c', .string d', .string e', .string f', .bool y] 35)).alloc (.cells #[.string ⟨#[]⟩, .string ⟨#[]⟩, .string ⟨#[]⟩, .string ⟨#[]⟩, .string ⟨#[]⟩, .string ⟨#[]⟩, .bool false] 35)).cell? ⟨w.heap.size + 1, 5, none⟩ = some (.string f') ∧ (((w.alloc (.cells #[.string a, .string b, .string c, .string d, .string e, .string f, .bool x] 35)).alloc (.cells #[.string a', .string b', .string c', .string d', .string e', .string f', .bool y] 35)).alloc (.cells #[.string ⟨#[]⟩, .string ⟨#[]⟩, .string ⟨#[]⟩, .string ⟨#[]⟩, .string ⟨#[]⟩, .string ⟨#[]⟩, .bool false] 35)).cell? ⟨w.heap.size + 1, 6, none⟩ = some (.bool y) ∧ w.heap.size + 1 < (((w.alloc (.cells #[.string a, .string b, .string c, .string d, .string e, .string f, .bool x] 35)).alloc (.cells #[.string a', .string b', .string c', .string d', .string e', .string f', .bool y] 35)).alloc (.cells #[.string ⟨#[]⟩, .string ⟨#[]⟩, .string ⟨#[]⟩, .string ⟨#[]⟩, .string ⟨#[]⟩, .string ⟨#[]⟩, .bool false] 35)).heap.size := ⟨by go_simp, by go_simp, by go_simp, by go_simp, by go_simp, by go_simp, by go_simp, by go_simp, by go_simp, by go_simp, by go_simp, by go_simp, by go_simp, by go_simp, by simp <;> omega⟩
  have hB : Below w.heap.size w (((w.alloc (.cells #[.string a, .string b, .string c, .string d, .string e, .string f, .bool x] 35)).alloc (.cells #[.string a', .string b', .string c', .string d', .string e', .string f', .bool y] 35)).alloc (.cells #[.string ⟨#[]⟩, .string ⟨#[]⟩, .string ⟨#[]⟩, .string ⟨#[]⟩, .string ⟨#[]⟩, .string ⟨#[]⟩, .bool false] 35)) := g_alloc (g_alloc (g_alloc g_refl _) _) _
  go_enter Try.func8, Try.ntmps8
  go_wp2_with fail
  have hz0 : w.heap.size + 1 + 1 < ((((w.alloc (.cells #[.string a, .string b, .string c, .string d, .string e, .string f, .bool x] 35)).alloc (.cells #[.string a', .string b', .string c', .string d', .string e', .string f', .bool y] 35)).alloc (.cells #[.string ⟨#[]⟩, .string ⟨#[]⟩, .string ⟨#[]⟩, .string ⟨#[]⟩, .string ⟨#[]⟩, .string ⟨#[]⟩, .bool false] 35))).heap.size := by simp
  generalize (((w.alloc (.cells #[.string a, .string b, .string c, .string d, .string e, .string f, .bool x] 35)).alloc (.cells #[.string a', .string b', .string c', .string d', .string e', .string f', .bool y] 35)).alloc (.cells #[.string ⟨#[]⟩, .string ⟨#[]⟩, .string ⟨#[]⟩, .string ⟨#[]⟩, .string ⟨#[]⟩, .string ⟨#[]⟩, .bool false] 35)) = W0 at *
  go_region_held3 (fun w' => w'.cell? ⟨w.heap.size, 0, none⟩ = some (.string a) ∧ w'.cell? ⟨w.heap.size, 1, none⟩ = some (.string b) ∧ w'.cell? ⟨w.heap.size, 2, none⟩ = some (.string c) ∧ w'.cell? ⟨w.heap.size, 3, none⟩ = some (.string d) ∧ w'.cell? ⟨w.heap.size, 4, none⟩ = some (.string e) ∧ w'.cell? ⟨w.heap.size, 5, none⟩ = some (.string f) ∧ w'.cell? ⟨w.heap.size, 6, none⟩ = some (.bool x) ∧ w'.cell? ⟨w.heap.size + 1, 0, none⟩ = some (.string a') ∧ w'.cell? ⟨w.heap.size + 1, 1, none⟩ = some (.string b') ∧ w'.cell? ⟨w.heap.size + 1, 2, none⟩ = some (.string c') ∧ w'.cell? ⟨w.heap.size + 1, 3, none⟩ = some (.string d') ∧ w'.cell? ⟨w.heap.size + 1, 4, none⟩ = some (.string e') ∧ w'.cell? ⟨w.heap.size + 1, 5, none⟩ = some (.string f') ∧ w'.cell? ⟨w.heap.size + 1, 6, none⟩ = some (.bool y) ∧ w.heap.size + 1 < w'.heap.size) (first | assumption | exact ff_keep (by assumption) (by assumption) | exact ff_keep (g_alloc g_refl _) (by assumption))
    (first | (go_at_call 32; with_reducible refine (fcheck_v a b c d e f x n1 _ HF.out H1.out).mono ?_; rintro r w1 ⟨rfl, hw1⟩) | (go_at_call 32; with_reducible refine (fcheck_v a' b' c' d' e' f' y n2 _ HG.out H2.out).mono ?_; rintro r w2 ⟨rfl, hw2⟩) | (go_at_call 31; with_reducible refine (orI_any n1 n2 n _ _ (by go_simp) (by go_simp) HN.out).mono ?_; rintro r w' ⟨rfl, rfl⟩))
  all_goals
    have hC := g_alloc (g_trans (g_trans (g_drew (g_refl (a := W0))) hw1) hw2) (.cells #[.int .i64 n1, .int .i64 n2] 37)
    obtain ⟨o0, o1, o2, o3, o4, o5, o6, u0, u1, u2, u3, u4, u5, u6, u7⟩ := HOZ.out.keep hC
    have hD := g_trans hB (g_trans (g_trans (g_drew (g_refl (a := W0))) hw1) hw2)
    clear hS hC hw1 hw2
    go_wp2
    (try simp only [Exit.inBlock, Exit.then])
    refine bodyPost_ret (v := .tuple #[.agg #[.string ⟨#[]⟩, .string ⟨#[]⟩, .string ⟨#[]⟩, .string ⟨#[]⟩, .string ⟨#[]⟩, .string ⟨#[]⟩, .bool false], .bool false, .int .i64 n]) ?_ rfl ?_
    · simp [results, Try.results8, go_sem, *]
    · refine ⟨rfl, ?_⟩
      repeat (first | (with_reducible refine g_alloc ?_ _) | (with_reducible refine g_set ?_ (show w.heap.size ≤ w.heap.size + 1 + 1 by omega) _))
      with_reducible exact hD

/-- what the loop over the fields holds -/
def BL (a b c a' b' c' : ByteArray) (p : Nat) (f g : Fil) (w : World) (k : Nat) (wr : World) : Prop :=
  FB wr w.heap.size f ∧ FB wr (w.heap.size + 1) g ∧ OZ wr (w.heap.size + 1 + 1) ∧ (∃ z0 z1 z2, P3 wr p z0 z1 z2 ∧ (0 < k → z0 = orS a a' ∧ clF a a' = false) ∧ (1 < k → z1 = orS b b' ∧ clF b b' = false) ∧ (2 < k → z2 = orS c c' ∧ clF c c' = false)) ∧ Below w.heap.size w wr
theorem BL.z {a b c a' b' c' : ByteArray} {p : Nat} {f g : Fil} {w wr : World} (h1 : FB wr w.heap.size f) (h2 : FB wr (w.heap.size + 1) g) (h3 : OZ wr (w.heap.size + 1 + 1)) (h4 : P3 wr p ⟨#[]⟩ ⟨#[]⟩ ⟨#[]⟩) (h5 : Below w.heap.size w wr) : BL a b c a' b' c' p f g w 0 wr :=
  ⟨h1, h2, h3, ⟨_, _, _, h4, fun h => absurd h (by omega), fun h => absurd h (by omega), fun h => absurd h (by omega)⟩, h5⟩
theorem BL.s0 {a b c a' b' c' : ByteArray} {p : Nat} {f g : Fil} {w wr : World} (h : BL a b c a' b' c' p f g w 0 wr) (hp : w.heap.size + 1 + 1 < p) (hc : clF a a' = false) (o1 o2 : Obj) : BL a b c a' b' c' p f g w (0+1) (((wr.setCell ⟨p, 0, none⟩ (.string (orS a a'))).alloc o1).alloc o2) := by
  obtain ⟨h1, h2, h3, ⟨z0, z1, z2, hP, g0, g1, g2⟩, hB⟩ := h
  have hA : ∀ W : World, Below W.heap.size W ((W.alloc o1).alloc o2) := fun W => g_alloc (g_alloc g_refl _) _
  exact ⟨(h1.set (by omega)).keep (hA _), (h2.set (by omega)).keep (hA _), (h3.set (by omega)).keep (hA _), ⟨_, _, _, hP.s0.keep (hA _), fun _ => ⟨rfl, hc⟩, fun h => absurd h (by omega), fun h => absurd h (by omega)⟩, g_alloc (g_alloc (g_set hB (show w.heap.size ≤ p by omega) _) _) _⟩
theorem BL.s1 {a b c a' b' c' : ByteArray} {p : Nat} {f g : Fil} {w wr : World} (h : BL a b c a' b' c' p f g w 1 wr) (hp : w.heap.size + 1 + 1 < p) (hc : clF b b' = false) (o1 o2 : Obj) : BL a b c a' b' c' p f g w (1+1) (((wr.setCell ⟨p, 1, none⟩ (.string (orS b b'))).alloc o1).alloc o2) := by
  obtain ⟨h1, h2, h3, ⟨z0, z1, z2, hP, g0, g1, g2⟩, hB⟩ := h
  have hA : ∀ W : World, Below W.heap.size W ((W.alloc o1).alloc o2) := fun W => g_alloc (g_alloc g_refl _) _
  exact ⟨(h1.set (by omega)).keep (hA _), (h2.set (by omega)).keep (hA _), (h3.set (by omega)).keep (hA _), ⟨_, _, _, hP.s1.keep (hA _), fun _ => g0 (by omega), fun _ => ⟨rfl, hc⟩, fun h => absurd h (by omega)⟩, g_alloc (g_alloc (g_set hB (show w.heap.size ≤ p by omega) _) _) _⟩
theorem BL.s2 {a b c a' b' c' : ByteArray} {p : Nat} {f g : Fil} {w wr : World} (h : BL a b c a' b' c' p f g w 2 wr) (hp : w.heap.size + 1 + 1 < p) (hc : clF c c' = false) (o1 o2 : Obj) : BL a b c a' b' c' p f g w (2+1) (((wr.setCell ⟨p, 2, none⟩ (.string (orS c c'))).alloc o1).alloc o2) := by
  obtain ⟨h1, h2, h3, ⟨z0, z1, z2, hP, g0, g1, g2⟩, hB⟩ := h
  have hA : ∀ W : World, Below W.heap.size W ((W.alloc o1).alloc o2) := fun W => g_alloc (g_alloc g_refl _) _
  exact ⟨(h1.set (by omega)).keep (hA _), (h2.set (by omega)).keep (hA _), (h3.set (by omega)).keep (hA _), ⟨_, _, _, hP.s2.keep (hA _), fun _ => g0 (by omega), fun _ => g1 (by omega), fun _ => ⟨rfl, hc⟩⟩, g_alloc (g_alloc (g_set hB (show w.heap.size ≤ p by omega) _) _) _⟩
set_option maxRecDepth 20000 in
set_option maxHeartbeats 1000000 in
theorem both_ok (a b c d e f a' b' c' d' e' f' : ByteArray) (x y : Bool) (w : World) (hF : FitF ⟨a, b, c, d, e, f, x⟩) (hG : FitF ⟨a', b', c', d', e', f', y⟩) (hn : orI (fchk ⟨a, b, c, d, e, f, x⟩) (fchk ⟨a', b', c', d', e', f', y⟩) = 0) :
    Calls Try.prog 8 #[.agg #[.string a, .string b, .string c, .string d, .string e, .string f, .bool x], .agg #[.string a', .string b', .string c', .string d', .string e', .string f', .bool y]] w (BothRet ⟨a, b, c, d, e, f, x⟩ ⟨a', b', c', d', e', f', y⟩ w) := by
  have i0 := pr0 a a' b b' c c'
  have i1 := pr1 a a' b b' c c'
  have i2 := pr2 a a' b b' c c'
  have H0 := hid hn
  obtain ⟨n1, hn1⟩ : ∃ n, fchk ⟨a, b, c, d, e, f, x⟩ = n := ⟨_, rfl⟩
  obtain ⟨n2, hn2⟩ : ∃ n, fchk ⟨a', b', c', d', e', f', y⟩ = n := ⟨_, rfl⟩
  rw [hn1, hn2] at hn
  have H1 := hid hn1; clear hn1
  have H2 := hid hn2; clear hn2
  have HN := hid hn; clear hn
  have HF := hid hF; clear hF
  have HG := hid hG; clear hG
  have HOZ : Hid (OZ (((w.alloc (.cells #[.string a, .string b, .string c, .string d, .string e, .string f, .bool x] 35)).alloc (.cells #[.string a', .string b', .string c', .string d', .string e', .string f', .bool y] 35)).alloc (.cells #[.string ⟨#[]⟩, .string ⟨#[]⟩, .string ⟨#[]⟩, .string ⟨#[]⟩, .string ⟨#[]⟩, .string ⟨#[]⟩, .bool false] 35)) (w.heap.size + 1 + 1)) := hid (by simp only [OZ]; exact ⟨by go_simp, by go_simp, by go_simp, by go_simp, by go_simp, by go_simp, by go_simp, by go_simp, by go_simp, by go_simp, by go_simp, by go_simp, by go_simp, by go_simp, by simp⟩)
  have hS : (((w.alloc (.cells #[.string a, .string b, .string c, .string d, .string e, .string f, .bool x] 35)).alloc (.cells #[.string a', .string b', .string c', .string d', .string e', .string f', .bool y] 35)).alloc (.cells #[.string ⟨#[]⟩, .string ⟨#[]⟩, .string ⟨#[]⟩, .string ⟨#[]⟩, .string ⟨#[]⟩, .string ⟨#[]⟩, .bool false] 35)).cell? ⟨w.heap.size, 0, none⟩ = some (.string a) ∧ (((w.alloc (.cells #[.string a, .string b, .string c, .string d, .string e, .string f, .bool x] 35)).alloc (.cells #[.string a', .string b', .string c', .string d', .string e', .string f', .bool y] 35)).alloc (.cells #[.string ⟨#[]⟩, .string ⟨#[]⟩, .string ⟨#[]⟩, .string ⟨#[]⟩, .string ⟨#[]⟩, .string ⟨#[]⟩, .bool false] 35)).cell? ⟨w.heap.size, 1, none⟩ = some (.string b) ∧ (((w.alloc (.cells #[.string a, .string b, .string c, .string d, .string e, .string f, .bool x] 35)).alloc (.cells #[.string a', .string b', .string c', .string d', .string e', .string f', .bool y] 35)).alloc (.cells #[.string ⟨#[]⟩, .string ⟨#[]⟩, .string ⟨#[]⟩, .string ⟨#[]⟩, .string ⟨#[]⟩, .string ⟨#[]⟩, .bool false] 35)).cell? ⟨w.heap.size, 2, none⟩ = some (.string c) ∧ (((w.alloc (.cells #[.string a, .string b, .string c, .string d, .string e, .string f, .bool x] 35)).alloc (.cells #[.string a', .string b', .string c', .string d', .string e', .string f', .bool y] 35)).alloc (.cells #[.string ⟨#[]⟩, .string ⟨#[]⟩, .string ⟨#[]⟩, .string ⟨#[]⟩, .string ⟨#[]⟩, .string ⟨#[]⟩, .bool false] 35)).cell? ⟨w.heap.size, 3, none⟩ = some (.string d) ∧ (((w.alloc (.cells #[.string a, .string b, .string c, .string d, .string e, .string f, .bool x] 35)).alloc (.cells #[.string a', .string b', .string c', .string d', .string e', .string f', .bool y] 35)).alloc (.cells #[.string ⟨#[]⟩, .string ⟨#[]⟩, .string ⟨#[]⟩, .string ⟨#[]⟩, .string ⟨#[]⟩, .string ⟨#[]⟩, .bool false] 35)).cell? ⟨w.heap.size, 4, none⟩ = some (.string e) ∧ (((w.alloc (.cells #[.string a, .string b, .string c, .string d, .string e, .string f, .bool x] 35)).alloc (.cells #[.string a', .string b', .string c', .string d', .string e', .string f', .bool y] 35)).alloc (.cells #[.string ⟨#[]⟩, .string ⟨#[]⟩, .string ⟨#[]⟩, .string ⟨#[]⟩, .string ⟨#[]⟩, .string ⟨#[]⟩, .bool false] 35)).cell? ⟨w.heap.size, 5, none⟩ = some (.string f) ∧ (((w.alloc (.cells #[.string a, .string b, .string c, .string d, .string e, .string f, .bool x] 35)).alloc (.cells #[.string a', .string b', .string c', .string d', .string e', .string f', .bool y] 35)).alloc (.cells #[.string ⟨#[]⟩, .string ⟨#[]⟩, .string ⟨#[]⟩, .string ⟨#[]⟩, .string ⟨#[]⟩, .string ⟨#[]⟩, .bool false] 35)).cell? ⟨w.heap.size, 6, none⟩ = some (.bool x) ∧ (((w.alloc (.cells #[.string a, .string b, .string c, .string d, .string e, .string f, .bool x] 35)).alloc (.cells #[.string a', .string b', .string c', .string d', .string e', .string f', .bool y] 35)).alloc (.cells #[.string ⟨#[]⟩, .string ⟨#[]⟩, .string ⟨#[]⟩, .string ⟨#[]⟩, .string ⟨#[]⟩, .string ⟨#[]⟩, .bool false] 35)).cell? ⟨w.heap.size + 1, 0, none⟩ = some (.string a') ∧ (((w.alloc (.cells #[.string a, .string b, .string c, .string d, .string e, .string f, .bool x] 35)).alloc (.cells #[.string a', .string b', .string c', .string d', .string e', .string f', .bool y] 35)).alloc (.cells #[.string ⟨#[]⟩, .string ⟨#[]⟩, .string ⟨#[]⟩, .string ⟨#[]⟩, .string ⟨#[]⟩, .string ⟨#[]⟩, .bool false] 35)).cell? ⟨w.heap.size + 1, 1, none⟩ = some (.string b') ∧ (((w.alloc (.cells #[.string a, .string b, .string c, .string d, .string e, .string f, .bool x] 35)).alloc (.cells #[.string a', .string b', .string c', .string d', .string e', .string f', .bool y] 35)).alloc (.cells #[.string ⟨#[]⟩, .string ⟨#[]⟩, .string ⟨#[]⟩, .string ⟨#[]⟩, .string ⟨#[]⟩, .string ⟨#[]⟩, .bool false] 35)).cell? ⟨w.heap.size + 1, 2, none⟩ = some (.string c') ∧ (((w.alloc (.cells #[.string a, .string b, .string c, .string d, .string e, .string f, .bool x] 35)).alloc (.cells #[.string a', .string b', .string c', .string d', .string e', .string f', .bool y] 35)).alloc (.cells #[.string ⟨#[]⟩, .string ⟨#[]⟩, .string ⟨#[]⟩, .string ⟨#[]⟩, .string ⟨#[]⟩, .string ⟨#[]⟩, .bool false] 35)).cell? ⟨w.heap.size + 1, 3, none⟩ = some (.string d') ∧ (((w.alloc (.cells #[.string a, .string b, .string c, .string d, .string e, .string f, .bool x] 35)).alloc (.cells #[.string a', .string b', .string c', .string d', .string e', .string f', .bool y] 35)).alloc (.cells #[.string ⟨#[]⟩, .string ⟨#[]⟩, .string ⟨#[]⟩, .string ⟨#[]⟩, .string ⟨#[]⟩, .string ⟨#[]⟩, .bool false] 35)).cell? ⟨w.heap.size + 1, 4, none⟩ = some (.string e') ∧ (((w.alloc (.cells #[.string a, .string b, .string c, .string d, .string e, .string f, .bool x] 35)).alloc (.cells #[.string a', .string b', .string c', .string d', .string e', .string f', .bool y] 35)).alloc (.cells #[.string ⟨#[]⟩, .string ⟨#[]⟩, .string ⟨#[]⟩, .string ⟨#[]⟩, .string ⟨#[]⟩, .string ⟨#[]⟩, .bool false] 35)).cell? ⟨w.heap.size + 1, 5, none⟩ = some (.string f') ∧ (((w.alloc (.cells #[.string a, .string b, .string c, .string d, .string e, .string f, .bool x] 35)).alloc (.cells #[.string a', .string b', .string c', .string d', .string e', .string f', .bool y] 35)).alloc (.cells #[.string ⟨#[]⟩, .string ⟨#[]⟩, .string ⟨#[]⟩, .string ⟨#[]⟩, .string ⟨#[]⟩, .string ⟨#[]⟩, .bool false] 35)).cell? ⟨w.heap.size + 1, 6, none⟩ = some (.bool y) ∧ w.heap.size + 1 < (((w.alloc (.cells #[.string a, .string b, .string c, .string d, .string e, .string f, .bool x] 35)).alloc (.cells #[.string a', .string b', .string c', .string d', .string e', .string f', .bool y] 35)).alloc (.cells #[.string ⟨#[]⟩, .string ⟨#[]⟩, .string ⟨#[]⟩, .string ⟨#[]⟩, .string ⟨#[]⟩, .string ⟨#[]⟩, .bool false] 35)).heap.size := ⟨by go_simp, by go_simp, by go_simp, by go_simp, by go_simp, by go_simp, by go_simp, by go_simp, by go_simp, by go_simp, by go_simp, by go_simp, by go_simp, by go_simp, by simp <;> omega⟩
  have hB : Below w.heap.size w (((w.alloc (.cells #[.string a, .string b, .string c, .string d, .string e, .string f, .bool x] 35)).alloc (.cells #[.string a', .string b', .string c', .string d', .string e', .string f', .bool y] 35)).alloc (.cells #[.string ⟨#[]⟩, .string ⟨#[]⟩, .string ⟨#[]⟩, .string ⟨#[]⟩, .string ⟨#[]⟩, .string ⟨#[]⟩, .bool false] 35)) := g_alloc (g_alloc (g_alloc g_refl _) _) _
  go_enter Try.func8, Try.ntmps8
  go_wp2_with fail
  have hz0 : w.heap.size + 1 + 1 < ((((w.alloc (.cells #[.string a, .string b, .string c, .string d, .string e, .string f, .bool x] 35)).alloc (.cells #[.string a', .string b', .string c', .string d', .string e', .string f', .bool y] 35)).alloc (.cells #[.string ⟨#[]⟩, .string ⟨#[]⟩, .string ⟨#[]⟩, .string ⟨#[]⟩, .string ⟨#[]⟩, .string ⟨#[]⟩, .bool false] 35))).heap.size := by simp
  generalize (((w.alloc (.cells #[.string a, .string b, .string c, .string d, .string e, .string f, .bool x] 35)).alloc (.cells #[.string a', .string b', .string c', .string d', .string e', .string f', .bool y] 35)).alloc (.cells #[.string ⟨#[]⟩, .string ⟨#[]⟩, .string ⟨#[]⟩, .string ⟨#[]⟩, .string ⟨#[]⟩, .string ⟨#[]⟩, .bool false] 35)) = W0 at *
  go_region_held3 (fun w' => w'.cell? ⟨w.heap.size, 0, none⟩ = some (.string a) ∧ w'.cell? ⟨w.heap.size, 1, none⟩ = some (.string b) ∧ w'.cell? ⟨w.heap.size, 2, none⟩ = some (.string c) ∧ w'.cell? ⟨w.heap.size, 3, none⟩ = some (.string d) ∧ w'.cell? ⟨w.heap.size, 4, none⟩ = some (.string e) ∧ w'.cell? ⟨w.heap.size, 5, none⟩ = some (.string f) ∧ w'.cell? ⟨w.heap.size, 6, none⟩ = some (.bool x) ∧ w'.cell? ⟨w.heap.size + 1, 0, none⟩ = some (.string a') ∧ w'.cell? ⟨w.heap.size + 1, 1, none⟩ = some (.string b') ∧ w'.cell? ⟨w.heap.size + 1, 2, none⟩ = some (.string c') ∧ w'.cell? ⟨w.heap.size + 1, 3, none⟩ = some (.string d') ∧ w'.cell? ⟨w.heap.size + 1, 4, none⟩ = some (.string e') ∧ w'.cell? ⟨w.heap.size + 1, 5, none⟩ = some (.string f') ∧ w'.cell? ⟨w.heap.size + 1, 6, none⟩ = some (.bool y) ∧ w.heap.size + 1 < w'.heap.size) (first | assumption | exact ff_keep (by assumption) (by assumption) | exact ff_keep (g_alloc g_refl _) (by assumption))
    (first | (go_at_call 32; with_reducible refine (fcheck_v a b c d e f x n1 _ HF.out H1.out).mono ?_; rintro r w1 ⟨rfl, hw1⟩) | (go_at_call 32; with_reducible refine (fcheck_v a' b' c' d' e' f' y n2 _ HG.out H2.out).mono ?_; rintro r w2 ⟨rfl, hw2⟩) | (go_at_call 31; with_reducible refine (orI_any n1 n2 0 _ _ (by go_simp) (by go_simp) HN.out).mono ?_; rintro r w' ⟨rfl, rfl⟩))
  all_goals
    have hC := g_alloc (g_trans (g_trans (g_drew (g_refl (a := W0))) hw1) hw2) (.cells #[.int .i64 n1, .int .i64 n2] 37)
    have HO2 := hid (HOZ.out.keep hC)
    have hD := g_trans hB hC
    have HA2 : Hid (FB _ w.heap.size ⟨a, b, c, d, e, f, x⟩) := hid (by obtain ⟨c0, c1, c2, c3, c4, c5, c6, d0, d1, d2, d3, d4, d5, d6, hs⟩ := hS; exact FB.keep (f := ⟨a, b, c, d, e, f, x⟩) ⟨c0, c1, c2, c3, c4, c5, c6, by omega⟩ hC)
    have HB2 : Hid (FB _ (w.heap.size + 1) ⟨a', b', c', d', e', f', y⟩) := hid (by obtain ⟨c0, c1, c2, c3, c4, c5, c6, d0, d1, d2, d3, d4, d5, d6, hs⟩ := hS; exact FB.keep (f := ⟨a', b', c', d', e', f', y⟩) ⟨d0, d1, d2, d3, d4, d5, d6, hs⟩ hC)
    clear hS hC hw1 HOZ hB
    generalize w2.alloc (.cells #[.int .i64 n1, .int .i64 n2] 37) = W1 at *
    clear hw2
    obtain ⟨c0, c1, c2, c3, c4, c5, c6, c7⟩ := HA2.out
    obtain ⟨d0, d1, d2, d3, d4, d5, d6, d7⟩ := HB2.out
    go_wp2_with fail
    clear c0 c1 c2 c3 c4 c5 c6 c7 d0 d1 d2 d3 d4 d5 d6 d7
    refine (pairs_any a b c d e f x a' b' c' _).mono ?_
    rintro r w3 ⟨rfl, hw3⟩
    have hz1 : w.heap.size + 1 + 1 < W1.heap.size := HO2.out.2.2.2.2.2.2.2.2.2.2.2.2.2.2
    have hA3 : Below W1.heap.size W1 w3 := g_trans (g_alloc g_refl _) hw3.toBelow
    have HBL : Hid (BL a b c a' b' c' W1.heap.size ⟨a, b, c, d, e, f, x⟩ ⟨a', b', c', d', e', f', y⟩ w 0 w3) := hid (BL.z (HA2.out.keep hA3) (HB2.out.keep hA3) (HO2.out.keep hA3) (P3.keep (by simp only [P3]; exact ⟨by go_simp, by go_simp, by go_simp, by go_simp, by go_simp, by go_simp, by simp⟩) hw3.toBelow) (g_trans hD hA3))
    clear hw3 hA3 HA2 HB2 HO2 hD
    generalize W1.heap.size = p at *
    go_wp2
    go_loopw [30] (fun i wr => ∃ k : Nat, k ≤ 3 ∧ i = .int .i64 k ∧ BL a b c a' b' c' p ⟨a, b, c, d, e, f, x⟩ ⟨a', b', c', d', e', f', y⟩ w k wr) (fun i _ => 3 - (intOf i).toNat)
    case atStart => exact ⟨0, by omega, rfl, HBL.out⟩
    case round =>
      clear HBL
      obtain ⟨k, hk, rfl, hbl⟩ := hrel
      have HBL := hid hbl
      obtain ⟨h1, h2, h3, ⟨z0, z1, z2, hP, g0, g1, g2⟩, hB⟩ := hbl
      have HG0 := hid g0; clear g0
      have HG1 := hid g1; clear g1
      have HG2 := hid g2; clear g2
      have H1 := hid h1; clear h1
      have H2 := hid h2; clear h2
      have H3 := hid h3; clear h3
      obtain ⟨m0, m1, m2, y0, y1, y2, hpw⟩ := hP
      rcases (show k = 0 ∨ k = 1 ∨ k = 2 ∨ k = 3 by omega) with rfl | rfl | rfl | rfl <;> clear hk
      · rcases clF_cases a a' with ⟨e1, hc⟩ | ⟨e1, e2, hc⟩ | ⟨e1, e2, e3, hc⟩ | ⟨e1, e2, e3, hc⟩ <;> have HC := hid hc <;> clear hc
        · go_wp2_with fail
          refine (orS_any a a' _ _ (by go_simp) (by go_simp)).mono ?_
          rintro r w' ⟨rfl, rfl⟩
          go_wp2
          go_roundw
          case rel => exact ⟨0+1, by omega, by go_num, BL.s0 HBL.out hz1 HC.out _ _⟩
          case measure => simp [intOf]
        · go_wp2_with fail
          refine (orS_any a a' _ _ (by go_simp) (by go_simp)).mono ?_
          rintro r w' ⟨rfl, rfl⟩
          go_wp2
          go_roundw
          case rel => exact ⟨0+1, by omega, by go_num, BL.s0 HBL.out hz1 HC.out _ _⟩
          case measure => simp [intOf]
        · go_wp2_with fail
          refine (orS_any a a' _ _ (by go_simp) (by go_simp)).mono ?_
          rintro r w' ⟨rfl, rfl⟩
          go_wp2
          go_roundw
          case rel => exact ⟨0+1, by omega, by go_num, BL.s0 HBL.out hz1 HC.out _ _⟩
          case measure => simp [intOf]
        · obtain ⟨o0, o1, o2, o3, o4, o5, o6, u0, u1, u2, u3, u4, u5, u6, u7⟩ := H3.out
          have HK := hid (bothR_no H0.out (clash_a (f := ⟨a, b, c, d, e, f, x⟩) (g := ⟨a', b', c', d', e', f', y⟩) HC.out))
          go_wp2
          (try simp only [Exit.inBlock, Exit.then])
          refine bodyPost_ret (v := .tuple #[.agg #[.string ⟨#[]⟩, .string ⟨#[]⟩, .string ⟨#[]⟩, .string ⟨#[]⟩, .string ⟨#[]⟩, .string ⟨#[]⟩, .bool false], .bool false, .int .i64 0]) ?_ rfl ?_
          · simp [results, Try.results8, go_sem, *]
          · refine ⟨by rw [HK.out]; rfl, ?_⟩
            repeat (first | (with_reducible refine g_alloc ?_ _) | (with_reducible refine g_set ?_ (show w.heap.size ≤ w.heap.size + 1 + 1 by omega) _))
            with_reducible exact hB
      · rcases clF_cases b b' with ⟨e1, hc⟩ | ⟨e1, e2, hc⟩ | ⟨e1, e2, e3, hc⟩ | ⟨e1, e2, e3, hc⟩ <;> have HC := hid hc <;> clear hc
        · go_wp2_with fail
          refine (orS_any b b' _ _ (by go_simp) (by go_simp)).mono ?_
          rintro r w' ⟨rfl, rfl⟩
          go_wp2
          go_roundw
          case rel => exact ⟨1+1, by omega, by go_num, BL.s1 HBL.out hz1 HC.out _ _⟩
          case measure => simp [intOf]
        · go_wp2_with fail
          refine (orS_any b b' _ _ (by go_simp) (by go_simp)).mono ?_
          rintro r w' ⟨rfl, rfl⟩
          go_wp2
          go_roundw
          case rel => exact ⟨1+1, by omega, by go_num, BL.s1 HBL.out hz1 HC.out _ _⟩
          case measure => simp [intOf]
        · go_wp2_with fail
          refine (orS_any b b' _ _ (by go_simp) (by go_simp)).mono ?_
          rintro r w' ⟨rfl, rfl⟩
          go_wp2
          go_roundw
          case rel => exact ⟨1+1, by omega, by go_num, BL.s1 HBL.out hz1 HC.out _ _⟩
          case measure => simp [intOf]
        · obtain ⟨o0, o1, o2, o3, o4, o5, o6, u0, u1, u2, u3, u4, u5, u6, u7⟩ := H3.out
          have HK := hid (bothR_no H0.out (clash_b (f := ⟨a, b, c, d, e, f, x⟩) (g := ⟨a', b', c', d', e', f', y⟩) HC.out))
          go_wp2
          (try simp only [Exit.inBlock, Exit.then])
          refine bodyPost_ret (v := .tuple #[.agg #[.string ⟨#[]⟩, .string ⟨#[]⟩, .string ⟨#[]⟩, .string ⟨#[]⟩, .string ⟨#[]⟩, .string ⟨#[]⟩, .bool false], .bool false, .int .i64 0]) ?_ rfl ?_
          · simp [results, Try.results8, go_sem, *]
          · refine ⟨by rw [HK.out]; rfl, ?_⟩
            repeat (first | (with_reducible refine g_alloc ?_ _) | (with_reducible refine g_set ?_ (show w.heap.size ≤ w.heap.size + 1 + 1 by omega) _))
            with_reducible exact hB
      · rcases clF_cases c c' with ⟨e1, hc⟩ | ⟨e1, e2, hc⟩ | ⟨e1, e2, e3, hc⟩ | ⟨e1, e2, e3, hc⟩ <;> have HC := hid hc <;> clear hc
        · go_wp2_with fail
          refine (orS_any c c' _ _ (by go_simp) (by go_simp)).mono ?_
          rintro r w' ⟨rfl, rfl⟩
          go_wp2
          go_roundw
          case rel => exact ⟨2+1, by omega, by go_num, BL.s2 HBL.out hz1 HC.out _ _⟩
          case measure => simp [intOf]
        · go_wp2_with fail
          refine (orS_any c c' _ _ (by go_simp) (by go_simp)).mono ?_
          rintro r w' ⟨rfl, rfl⟩
          go_wp2
          go_roundw
          case rel => exact ⟨2+1, by omega, by go_num, BL.s2 HBL.out hz1 HC.out _ _⟩
          case measure => simp [intOf]
        · go_wp2_with fail
          refine (orS_any c c' _ _ (by go_simp) (by go_simp)).mono ?_
          rintro r w' ⟨rfl, rfl⟩
          go_wp2
          go_roundw
          case rel => exact ⟨2+1, by omega, by go_num, BL.s2 HBL.out hz1 HC.out _ _⟩
          case measure => simp [intOf]
        · obtain ⟨o0, o1, o2, o3, o4, o5, o6, u0, u1, u2, u3, u4, u5, u6, u7⟩ := H3.out
          have HK := hid (bothR_no H0.out (clash_c (f := ⟨a, b, c, d, e, f, x⟩) (g := ⟨a', b', c', d', e', f', y⟩) HC.out))
          go_wp2
          (try simp only [Exit.inBlock, Exit.then])
          refine bodyPost_ret (v := .tuple #[.agg #[.string ⟨#[]⟩, .string ⟨#[]⟩, .string ⟨#[]⟩, .string ⟨#[]⟩, .string ⟨#[]⟩, .string ⟨#[]⟩, .bool false], .bool false, .int .i64 0]) ?_ rfl ?_
          · simp [results, Try.results8, go_sem, *]
          · refine ⟨by rw [HK.out]; rfl, ?_⟩
            repeat (first | (with_reducible refine g_alloc ?_ _) | (with_reducible refine g_set ?_ (show w.heap.size ≤ w.heap.size + 1 + 1 by omega) _))
            with_reducible exact hB
      · obtain ⟨rfl, ka⟩ := HG0.out (by omega)
        obtain ⟨rfl, kb⟩ := HG1.out (by omega)
        obtain ⟨rfl, kc⟩ := HG2.out (by omega)
        have KA := hid ka
        have KB := hid kb
        have KC := hid kc
        clear ka kb kc HG0 HG1 HG2 HBL
        obtain ⟨⟨q1, q2, q3⟩, hq⟩ : ∃ z, orU (d, e, f) (d', e', f') = z := ⟨_, rfl⟩
        have HQ := hid hq; clear hq
        cases x
        · cases y
          · have HK : Hid (bothR ⟨a, b, c, d, e, f, false⟩ ⟨a', b', c', d', e', f', false⟩ = (⟨orS a a', orS b b', orS c c', q1, q2, q3, false⟩, true, 0)) := hid ((bothR_yes H0.out (clash_s (u := false) KA.out KB.out KC.out (by simp))).trans (by unfold bothF; simp only [HQ.out]; rfl))
            obtain ⟨c0, c1, c2, c3, c4, c5, c6, c7⟩ := H1.out
            obtain ⟨d0, d1, d2, d3, d4, d5, d6, d7⟩ := H2.out
            go_wp2_with fail
            refine (orU_any d e f d' e' f' q1 q2 q3 _ _ (by simp) (by go_simp) (by go_simp) (by go_simp) (by go_simp) (by go_simp) (by go_simp) HQ.out).mono ?_
            rintro r w5 ⟨rfl, hw5⟩
            have hA5 : Below wr.heap.size wr w5 := g_trans (g_alloc g_refl _) hw5.toBelow
            have HP5 : Hid (P3 w5 p (orS a a') (orS b b') (orS c c')) := hid (P3.keep ⟨m0, m1, m2, y0, y1, y2, hpw⟩ hA5)
            have H15 := hid (H1.out.keep hA5)
            have H25 := hid (H2.out.keep hA5)
            have H35 := hid (H3.out.keep hA5)
            have hB5 := g_trans hB hA5
            clear c0 c1 c2 c3 c4 c5 c6 c7 d0 d1 d2 d3 d4 d5 d6 d7 m0 m1 m2 y0 y1 y2 hpw hw5 hA5 hB
            obtain ⟨m0, m1, m2, y0, y1, y2, hpw⟩ := HP5.out
            obtain ⟨c0, c1, c2, c3, c4, c5, c6, c7⟩ := H15.out
            obtain ⟨d0, d1, d2, d3, d4, d5, d6, d7⟩ := H25.out
            obtain ⟨o0, o1, o2, o3, o4, o5, o6, u0, u1, u2, u3, u4, u5, u6, u7⟩ := H35.out
            go_wp2
            (try simp only [Exit.inBlock, Exit.then])
            refine bodyPost_ret (v := .tuple #[.agg #[.string (orS a a'), .string (orS b b'), .string (orS c c'), .string q1, .string q2, .string q3, .bool false], .bool true, .int .i64 0]) ?_ rfl ?_
            · simp [results, Try.results8, go_sem, *]
            · refine ⟨by rw [HK.out]; rfl, ?_⟩
              repeat (first | (with_reducible refine g_alloc ?_ _) | (with_reducible refine g_set ?_ (show w.heap.size ≤ w.heap.size + 1 + 1 by omega) _))
              with_reducible exact hB5
          · have HK : Hid (bothR ⟨a, b, c, d, e, f, false⟩ ⟨a', b', c', d', e', f', true⟩ = (⟨orS a a', orS b b', orS c c', q1, q2, q3, true⟩, true, 0)) := hid ((bothR_yes H0.out (clash_s (u := false) KA.out KB.out KC.out (by simp))).trans (by unfold bothF; simp only [HQ.out]; rfl))
            obtain ⟨c0, c1, c2, c3, c4, c5, c6, c7⟩ := H1.out
            obtain ⟨d0, d1, d2, d3, d4, d5, d6, d7⟩ := H2.out
            go_wp2_with fail
            refine (orU_any d e f d' e' f' q1 q2 q3 _ _ (by simp) (by go_simp) (by go_simp) (by go_simp) (by go_simp) (by go_simp) (by go_simp) HQ.out).mono ?_
            rintro r w5 ⟨rfl, hw5⟩
            have hA5 : Below wr.heap.size wr w5 := g_trans (g_alloc g_refl _) hw5.toBelow
            have HP5 : Hid (P3 w5 p (orS a a') (orS b b') (orS c c')) := hid (P3.keep ⟨m0, m1, m2, y0, y1, y2, hpw⟩ hA5)
            have H15 := hid (H1.out.keep hA5)
            have H25 := hid (H2.out.keep hA5)
            have H35 := hid (H3.out.keep hA5)
            have hB5 := g_trans hB hA5
            clear c0 c1 c2 c3 c4 c5 c6 c7 d0 d1 d2 d3 d4 d5 d6 d7 m0 m1 m2 y0 y1 y2 hpw hw5 hA5 hB
            obtain ⟨m0, m1, m2, y0, y1, y2, hpw⟩ := HP5.out
            obtain ⟨c0, c1, c2, c3, c4, c5, c6, c7⟩ := H15.out
            obtain ⟨d0, d1, d2, d3, d4, d5, d6, d7⟩ := H25.out
            obtain ⟨o0, o1, o2, o3, o4, o5, o6, u0, u1, u2, u3, u4, u5, u6, u7⟩ := H35.out
            go_wp2
            (try simp only [Exit.inBlock, Exit.then])
            refine bodyPost_ret (v := .tuple #[.agg #[.string (orS a a'), .string (orS b b'), .string (orS c c'), .string q1, .string q2, .string q3, .bool true], .bool true, .int .i64 0]) ?_ rfl ?_
            · simp [results, Try.results8, go_sem, *]
            · refine ⟨by rw [HK.out]; rfl, ?_⟩
              repeat (first | (with_reducible refine g_alloc ?_ _) | (with_reducible refine g_set ?_ (show w.heap.size ≤ w.heap.size + 1 + 1 by omega) _))
              with_reducible exact hB5
        · cases y
          · have HK : Hid (bothR ⟨a, b, c, d, e, f, true⟩ ⟨a', b', c', d', e', f', false⟩ = (⟨orS a a', orS b b', orS c c', q1, q2, q3, true⟩, true, 0)) := hid ((bothR_yes H0.out (clash_s (u := false) KA.out KB.out KC.out (by simp))).trans (by unfold bothF; simp only [HQ.out]; rfl))
            obtain ⟨c0, c1, c2, c3, c4, c5, c6, c7⟩ := H1.out
            obtain ⟨d0, d1, d2, d3, d4, d5, d6, d7⟩ := H2.out
            go_wp2_with fail
            refine (orU_any d e f d' e' f' q1 q2 q3 _ _ (by simp) (by go_simp) (by go_simp) (by go_simp) (by go_simp) (by go_simp) (by go_simp) HQ.out).mono ?_
            rintro r w5 ⟨rfl, hw5⟩
            have hA5 : Below wr.heap.size wr w5 := g_trans (g_alloc g_refl _) hw5.toBelow
            have HP5 : Hid (P3 w5 p (orS a a') (orS b b') (orS c c')) := hid (P3.keep ⟨m0, m1, m2, y0, y1, y2, hpw⟩ hA5)
            have H15 := hid (H1.out.keep hA5)
            have H25 := hid (H2.out.keep hA5)
            have H35 := hid (H3.out.keep hA5)
            have hB5 := g_trans hB hA5
            clear c0 c1 c2 c3 c4 c5 c6 c7 d0 d1 d2 d3 d4 d5 d6 d7 m0 m1 m2 y0 y1 y2 hpw hw5 hA5 hB
            obtain ⟨m0, m1, m2, y0, y1, y2, hpw⟩ := HP5.out
            obtain ⟨c0, c1, c2, c3, c4, c5, c6, c7⟩ := H15.out
            obtain ⟨d0, d1, d2, d3, d4, d5, d6, d7⟩ := H25.out
            obtain ⟨o0, o1, o2, o3, o4, o5, o6, u0, u1, u2, u3, u4, u5, u6, u7⟩ := H35.out
            go_wp2
            (try simp only [Exit.inBlock, Exit.then])
            refine bodyPost_ret (v := .tuple #[.agg #[.string (orS a a'), .string (orS b b'), .string (orS c c'), .string q1, .string q2, .string q3, .bool true], .bool true, .int .i64 0]) ?_ rfl ?_
            · simp [results, Try.results8, go_sem, *]
            · refine ⟨by rw [HK.out]; rfl, ?_⟩
              repeat (first | (with_reducible refine g_alloc ?_ _) | (with_reducible refine g_set ?_ (show w.heap.size ≤ w.heap.size + 1 + 1 by omega) _))
              with_reducible exact hB5
          · rcases sub_cases d e f d' e' f' with ⟨rfl, rfl, rfl⟩ | ⟨q, nq⟩ | ⟨rfl, q, nq⟩ | ⟨rfl, rfl, q, nq⟩
            · have HK : Hid (bothR ⟨a, b, c, d, e, f, true⟩ ⟨a', b', c', d, e, f, true⟩ = (⟨orS a a', orS b b', orS c c', q1, q2, q3, true⟩, true, 0)) := hid ((bothR_yes H0.out (clash_s (u := false) KA.out KB.out KC.out (by simp))).trans (by unfold bothF; simp only [HQ.out]; rfl))
              obtain ⟨c0, c1, c2, c3, c4, c5, c6, c7⟩ := H1.out
              obtain ⟨d0, d1, d2, d3, d4, d5, d6, d7⟩ := H2.out
              go_wp2_with fail
              refine (orU_any d e f d e f q1 q2 q3 _ _ (by simp) (by go_simp) (by go_simp) (by go_simp) (by go_simp) (by go_simp) (by go_simp) HQ.out).mono ?_
              rintro r w5 ⟨rfl, hw5⟩
              have hA5 : Below wr.heap.size wr w5 := g_trans (g_alloc g_refl _) hw5.toBelow
              have HP5 : Hid (P3 w5 p (orS a a') (orS b b') (orS c c')) := hid (P3.keep ⟨m0, m1, m2, y0, y1, y2, hpw⟩ hA5)
              have H15 := hid (H1.out.keep hA5)
              have H25 := hid (H2.out.keep hA5)
              have H35 := hid (H3.out.keep hA5)
              have hB5 := g_trans hB hA5
              clear c0 c1 c2 c3 c4 c5 c6 c7 d0 d1 d2 d3 d4 d5 d6 d7 m0 m1 m2 y0 y1 y2 hpw hw5 hA5 hB
              obtain ⟨m0, m1, m2, y0, y1, y2, hpw⟩ := HP5.out
              obtain ⟨c0, c1, c2, c3, c4, c5, c6, c7⟩ := H15.out
              obtain ⟨d0, d1, d2, d3, d4, d5, d6, d7⟩ := H25.out
              obtain ⟨o0, o1, o2, o3, o4, o5, o6, u0, u1, u2, u3, u4, u5, u6, u7⟩ := H35.out
              go_wp2
              (try simp only [Exit.inBlock, Exit.then])
              refine bodyPost_ret (v := .tuple #[.agg #[.string (orS a a'), .string (orS b b'), .string (orS c c'), .string q1, .string q2, .string q3, .bool true], .bool true, .int .i64 0]) ?_ rfl ?_
              · simp [results, Try.results8, go_sem, *]
              · refine ⟨by rw [HK.out]; rfl, ?_⟩
                repeat (first | (with_reducible refine g_alloc ?_ _) | (with_reducible refine g_set ?_ (show w.heap.size ≤ w.heap.size + 1 + 1 by omega) _))
                with_reducible exact hB5
            · have HK : Hid (bothR ⟨a, b, c, d, e, f, true⟩ ⟨a', b', c', d', e', f', true⟩ = (zF, false, 0)) := hid (bothR_no H0.out (clash_s (u := true) KA.out KB.out KC.out (by simp [nq])))
              clear nq
              obtain ⟨c0, c1, c2, c3, c4, c5, c6, c7⟩ := H1.out
              obtain ⟨d0, d1, d2, d3, d4, d5, d6, d7⟩ := H2.out
              obtain ⟨o0, o1, o2, o3, o4, o5, o6, u0, u1, u2, u3, u4, u5, u6, u7⟩ := H3.out
              go_wp2
              (try simp only [Exit.inBlock, Exit.then])
              refine bodyPost_ret (v := .tuple #[.agg #[.string ⟨#[]⟩, .string ⟨#[]⟩, .string ⟨#[]⟩, .string ⟨#[]⟩, .string ⟨#[]⟩, .string ⟨#[]⟩, .bool false], .bool false, .int .i64 0]) ?_ rfl ?_
              · simp [results, Try.results8, go_sem, *]
              · refine ⟨by rw [HK.out]; rfl, ?_⟩
                repeat (first | (with_reducible refine g_alloc ?_ _) | (with_reducible refine g_set ?_ (show w.heap.size ≤ w.heap.size + 1 + 1 by omega) _))
                with_reducible exact hB
            · have HK : Hid (bothR ⟨a, b, c, d, e, f, true⟩ ⟨a', b', c', d, e', f', true⟩ = (zF, false, 0)) := hid (bothR_no H0.out (clash_s (u := true) KA.out KB.out KC.out (by simp [nq])))
              clear nq
              obtain ⟨c0, c1, c2, c3, c4, c5, c6, c7⟩ := H1.out
              obtain ⟨d0, d1, d2, d3, d4, d5, d6, d7⟩ := H2.out
              obtain ⟨o0, o1, o2, o3, o4, o5, o6, u0, u1, u2, u3, u4, u5, u6, u7⟩ := H3.out
              go_wp2
              (try simp only [Exit.inBlock, Exit.then])
              refine bodyPost_ret (v := .tuple #[.agg #[.string ⟨#[]⟩, .string ⟨#[]⟩, .string ⟨#[]⟩, .string ⟨#[]⟩, .string ⟨#[]⟩, .string ⟨#[]⟩, .bool false], .bool false, .int .i64 0]) ?_ rfl ?_
              · simp [results, Try.results8, go_sem, *]
              · refine ⟨by rw [HK.out]; rfl, ?_⟩
                repeat (first | (with_reducible refine g_alloc ?_ _) | (with_reducible refine g_set ?_ (show w.heap.size ≤ w.heap.size + 1 + 1 by omega) _))
                with_reducible exact hB
            · have HK : Hid (bothR ⟨a, b, c, d, e, f, true⟩ ⟨a', b', c', d, e, f', true⟩ = (zF, false, 0)) := hid (bothR_no H0.out (clash_s (u := true) KA.out KB.out KC.out (by simp [nq])))
              clear nq
              obtain ⟨c0, c1, c2, c3, c4, c5, c6, c7⟩ := H1.out
              obtain ⟨d0, d1, d2, d3, d4, d5, d6, d7⟩ := H2.out
              obtain ⟨o0, o1, o2, o3, o4, o5, o6, u0, u1, u2, u3, u4, u5, u6, u7⟩ := H3.out
              go_wp2
              (try simp only [Exit.inBlock, Exit.then])
              refine bodyPost_ret (v := .tuple #[.agg #[.string ⟨#[]⟩, .string ⟨#[]⟩, .string ⟨#[]⟩, .string ⟨#[]⟩, .string ⟨#[]⟩, .string ⟨#[]⟩, .bool false], .bool false, .int .i64 0]) ?_ rfl ?_
              · simp [results, Try.results8, go_sem, *]
              · refine ⟨by rw [HK.out]; rfl, ?_⟩
                repeat (first | (with_reducible refine g_alloc ?_ _) | (with_reducible refine g_set ?_ (show w.heap.size ≤ w.heap.size + 1 + 1 by omega) _))
                with_reducible exact hB
theorem both_any (f g : Fil) (w : World) (hF : FitF f) (hG : FitF g) :
    Calls Try.prog 8 #[valF f, valF g] w (BothRet f g w) := by
  obtain ⟨a, b, c, d, e, f, x⟩ := f
  obtain ⟨a', b', c', d', e', f', y⟩ := g
  by_cases h0 : orI (fchk ⟨a, b, c, d, e, f, x⟩) (fchk ⟨a', b', c', d', e', f', y⟩) = 0
  · exact both_ok a b c d e f a' b' c' d' e' f' x y w hF hG h0
  · refine (both_err a b c d e f a' b' c' d' e' f' x y _ w hF hG rfl h0).mono fun r w' h => ⟨?_, h.2⟩
    rw [h.1, bothR_err rfl h0]; rfl
end Go.Proofs.Ytgfgfggoofjeeaa
