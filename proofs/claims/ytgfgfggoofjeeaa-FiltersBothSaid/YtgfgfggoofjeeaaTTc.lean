/-
  THE CONTRACTS of Check and Text of tuples, and of the reference's.
-/
import Derived.Test.YtgfgfggoofjeeaaTTp
namespace Go.Proofs.Ytgfgfggoofjeeaa
open Go.RowKit Go.Sort

/-- are the parts of a tuple names -/
def okT (x : Tup) : Bool := nb x.a && nb x.b && nb x.c && okSub x.d x.e x.f
/-- the text of a tuple -/
def txtT (x : Tup) : ByteArray := gtxt x.a x.b x.c ++ ⟨#[64]⟩ ++ stxt x.d x.e x.f
/-- each string has at most 40 bytes -/
def Small (x : Tup) : Prop := x.a.size ≤ 40 ∧ x.b.size ≤ 40 ∧ x.c.size ≤ 40 ∧ x.d.size ≤ 40 ∧ x.e.size ≤ 40 ∧ x.f.size ≤ 40
theorem Small.fits {x : Tup} (h : Small x) : Fits x := by
  obtain ⟨h1, h2, h3, h4, h5, h6⟩ := h
  have m : (40 : Nat) ≤ maxLen := by decide
  exact ⟨Nat.le_trans h1 m, Nat.le_trans h2 m, Nat.le_trans h3 m, Nat.le_trans h4 m, Nat.le_trans h5 m, Nat.le_trans h6 m⟩
theorem okT_of (x : Tup) (u v : Bool) (hu : (nb x.a && nb x.b && nb x.c) = u) (hv : okSub x.d x.e x.f = v) : okT x = (u && v) := by unfold okT; rw [hu, hv]
theorem goal_v (a b c : ByteArray) (u : Bool) (w : World) (ha : a.size ≤ maxLen) (hb : b.size ≤ maxLen) (hc : c.size ≤ maxLen) (h : (nb a && nb b && nb c) = u) :
    Calls Try.prog 57 #[.agg #[.string a, .string b, .string c]] w fun e w' => e = .returned (.int .i64 (err u)) ∧ Below w.heap.size w w' := by
  have q := goal_any a b c w ha hb hc; rw [h] at q; exact q
theorem rsubject_v (a b c : ByteArray) (u : Bool) (w : World) (ha : a.size ≤ maxLen) (hb : b.size ≤ maxLen) (hc : c.size ≤ maxLen) (h : okSub a b c = u) :
    Calls Try.prog 37 #[.agg #[.string a, .string b, .string c]] w fun e w' => e = .returned (.int .i64 (err u)) ∧ Below w.heap.size w w' := by
  have q := rsubject_any a b c w ha hb hc; rw [h] at q; exact q

set_option maxHeartbeats 1000000 in
theorem tcheck (x : Tup) (w : World) (hx : Fits x) :
    Calls Try.prog 50 #[val x] w fun e w' => e = .returned (.int .i64 (err (okT x))) ∧ Below w.heap.size w w' := by
  obtain ⟨z1, z2, z3, z4, z5, z6⟩ := hx
  show Calls _ _ #[.agg #[.string x.a, .string x.b, .string x.c, .string x.d, .string x.e, .string x.f]] _ _
  cases hu : (nb x.a && nb x.b && nb x.c)
  · have E : Hid (err (okT x) = 6) := by show _ = _; rw [okT_of x _ _ hu rfl]; rfl
    have HU := hid hu; clear hu
    go_enter Try.func50, Try.ntmps50
    go_wp2_with fail
    refine (goal_v _ _ _ false _ z1 z2 z3 HU.out).mono ?_
    rintro e w1 ⟨rfl, hw⟩
    simp only [err]
    go_wp2
    go_ret
    exact ⟨ret_int E.out.symm, g_trans (g_alloc g_refl _) hw⟩
  · have E : Hid (err (okT x) = err (okSub x.d x.e x.f)) := by show _ = _; rw [okT_of x _ _ hu rfl]; rfl
    have HU := hid hu; clear hu
    go_enter Try.func50, Try.ntmps50
    go_wp2_with fail
    refine (goal_v _ _ _ true _ z1 z2 z3 HU.out).mono ?_
    rintro e w1 ⟨rfl, hw⟩
    have o1 := own_cells hw w.heap.size (by simp)
    have x3 : w1.cell? ⟨w.heap.size, 3, none⟩ = some (.string x.d) := (o1 3).1.trans (by go_simp)
    have x4 : w1.cell? ⟨w.heap.size, 4, none⟩ = some (.string x.e) := (o1 4).1.trans (by go_simp)
    have x5 : w1.cell? ⟨w.heap.size, 5, none⟩ = some (.string x.f) := (o1 5).1.trans (by go_simp)
    clear o1
    simp only [err]
    go_wp2_with fail
    refine (subject_any _ _ _ _ z4 z5 z6).mono ?_
    rintro e w2 ⟨rfl, hw2⟩
    go_wp2
    go_ret
    exact ⟨ret_int E.out.symm, g_trans (g_trans (g_alloc g_refl _) hw) hw2⟩

theorem six_keep {x : Tup} {q : Nat} {W W' : World} (hb : Below W.heap.size W W') (h : W.cell? ⟨q, 0, none⟩ = some (.string x.a) ∧ W.cell? ⟨q, 1, none⟩ = some (.string x.b) ∧ W.cell? ⟨q, 2, none⟩ = some (.string x.c) ∧ W.cell? ⟨q, 3, none⟩ = some (.string x.d) ∧ W.cell? ⟨q, 4, none⟩ = some (.string x.e) ∧ W.cell? ⟨q, 5, none⟩ = some (.string x.f) ∧ q < W.heap.size) : W'.cell? ⟨q, 0, none⟩ = some (.string x.a) ∧ W'.cell? ⟨q, 1, none⟩ = some (.string x.b) ∧ W'.cell? ⟨q, 2, none⟩ = some (.string x.c) ∧ W'.cell? ⟨q, 3, none⟩ = some (.string x.d) ∧ W'.cell? ⟨q, 4, none⟩ = some (.string x.e) ∧ W'.cell? ⟨q, 5, none⟩ = some (.string x.f) ∧ q < W'.heap.size := by
  obtain ⟨h0, h1, h2, h3, h4, h5, h6⟩ := h
  exact ⟨(own_cells hb _ h6 _).1.trans h0, (own_cells hb _ h6 _).1.trans h1, (own_cells hb _ h6 _).1.trans h2, (own_cells hb _ h6 _).1.trans h3, (own_cells hb _ h6 _).1.trans h4, (own_cells hb _ h6 _).1.trans h5, Nat.lt_of_lt_of_le h6 hb.size⟩
theorem six_new (w : World) (x : Tup) (t : TypeId) : ∃ q, q = w.heap.size ∧ (w.alloc (.cells #[.string x.a, .string x.b, .string x.c, .string x.d, .string x.e, .string x.f] t)).cell? ⟨q, 0, none⟩ = some (.string x.a) ∧ (w.alloc (.cells #[.string x.a, .string x.b, .string x.c, .string x.d, .string x.e, .string x.f] t)).cell? ⟨q, 1, none⟩ = some (.string x.b) ∧ (w.alloc (.cells #[.string x.a, .string x.b, .string x.c, .string x.d, .string x.e, .string x.f] t)).cell? ⟨q, 2, none⟩ = some (.string x.c) ∧ (w.alloc (.cells #[.string x.a, .string x.b, .string x.c, .string x.d, .string x.e, .string x.f] t)).cell? ⟨q, 3, none⟩ = some (.string x.d) ∧ (w.alloc (.cells #[.string x.a, .string x.b, .string x.c, .string x.d, .string x.e, .string x.f] t)).cell? ⟨q, 4, none⟩ = some (.string x.e) ∧ (w.alloc (.cells #[.string x.a, .string x.b, .string x.c, .string x.d, .string x.e, .string x.f] t)).cell? ⟨q, 5, none⟩ = some (.string x.f) ∧ q < (w.alloc (.cells #[.string x.a, .string x.b, .string x.c, .string x.d, .string x.e, .string x.f] t)).heap.size :=
  ⟨_, rfl, by go_simp, by go_simp, by go_simp, by go_simp, by go_simp, by go_simp, by simp⟩


theorem gtxt_size {a b c : ByteArray} (ha : a.size ≤ 40) (hb : b.size ≤ 40) (hc : c.size ≤ 40) : (gtxt a b c).size ≤ 122 := by
  unfold gtxt; simp only [ByteArray.size_append]
  have h1 : (ByteArray.mk #[58]).size = 1 := rfl
  have h2 : (ByteArray.mk #[35]).size = 1 := rfl
  omega
theorem stxt_size {a b c : ByteArray} (ha : a.size ≤ 40) (hb : b.size ≤ 40) (hc : c.size ≤ 40) : (stxt a b c).size ≤ 122 := by
  unfold stxt; split
  · have := txt_size a b ha hb; omega
  · exact gtxt_size ha hb hc



end Go.Proofs.Ytgfgfggoofjeeaa
