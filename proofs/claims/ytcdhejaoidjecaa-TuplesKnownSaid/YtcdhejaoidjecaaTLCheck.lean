/-
  TuplesCheck returns true: the walk.
-/
import Derived.Test.YtcdhejaoidjecaaTFact
import Derived.Test.YtcdhejaoidjecaaTLives
import Derived.Test.YtcdhejaoidjecaaMOrd
namespace Go.Proofs.Ytcdhejaoidjecaa
open Go.RowKit Go.Sort

theorem cmpT_range (x y : Tup) : cmpT x y = -1 ∨ cmpT x y = 0 ∨ cmpT x y = 1 := by
  have h1 := cmpG_range x.a x.b x.c y.a y.b y.c
  have h2 := cmpG_range x.d x.e x.f y.d y.e y.f
  unfold cmpT; split <;> omega
theorem tt_keep {p q : Nat} {t u : Tup} {W W' : World} (hb : Below W.heap.size W W') (h : W.cell? ⟨p, 0, none⟩ = some (.string t.a) ∧ W.cell? ⟨p, 1, none⟩ = some (.string t.b) ∧ W.cell? ⟨p, 2, none⟩ = some (.string t.c) ∧ W.cell? ⟨p, 3, none⟩ = some (.string t.d) ∧ W.cell? ⟨p, 4, none⟩ = some (.string t.e) ∧ W.cell? ⟨p, 5, none⟩ = some (.string t.f) ∧ W.cell? ⟨q, 0, none⟩ = some (.string u.a) ∧ W.cell? ⟨q, 1, none⟩ = some (.string u.b) ∧ W.cell? ⟨q, 2, none⟩ = some (.string u.c) ∧ W.cell? ⟨q, 3, none⟩ = some (.string u.d) ∧ W.cell? ⟨q, 4, none⟩ = some (.string u.e) ∧ W.cell? ⟨q, 5, none⟩ = some (.string u.f) ∧ p < W.heap.size ∧ q < W.heap.size) : W'.cell? ⟨p, 0, none⟩ = some (.string t.a) ∧ W'.cell? ⟨p, 1, none⟩ = some (.string t.b) ∧ W'.cell? ⟨p, 2, none⟩ = some (.string t.c) ∧ W'.cell? ⟨p, 3, none⟩ = some (.string t.d) ∧ W'.cell? ⟨p, 4, none⟩ = some (.string t.e) ∧ W'.cell? ⟨p, 5, none⟩ = some (.string t.f) ∧ W'.cell? ⟨q, 0, none⟩ = some (.string u.a) ∧ W'.cell? ⟨q, 1, none⟩ = some (.string u.b) ∧ W'.cell? ⟨q, 2, none⟩ = some (.string u.c) ∧ W'.cell? ⟨q, 3, none⟩ = some (.string u.d) ∧ W'.cell? ⟨q, 4, none⟩ = some (.string u.e) ∧ W'.cell? ⟨q, 5, none⟩ = some (.string u.f) ∧ p < W'.heap.size ∧ q < W'.heap.size := by
  obtain ⟨h0, h1, h2, h3, h4, h5, h6, h7, h8, h9, h10, h11, h12, h13⟩ := h
  exact ⟨(own_cells hb _ h12 _).1.trans h0, (own_cells hb _ h12 _).1.trans h1, (own_cells hb _ h12 _).1.trans h2, (own_cells hb _ h12 _).1.trans h3, (own_cells hb _ h12 _).1.trans h4, (own_cells hb _ h12 _).1.trans h5, (own_cells hb _ h13 _).1.trans h6, (own_cells hb _ h13 _).1.trans h7, (own_cells hb _ h13 _).1.trans h8, (own_cells hb _ h13 _).1.trans h9, (own_cells hb _ h13 _).1.trans h10, (own_cells hb _ h13 _).1.trans h11, Nat.lt_of_lt_of_le h12 hb.size, Nat.lt_of_lt_of_le h13 hb.size⟩
theorem ttext_e (x : Tup) (s : ByteArray) (w : World) (hx : Small x) (h : txtT x = s) :
    Calls Try.prog 40 #[.agg #[.string x.a, .string x.b, .string x.c, .string x.d, .string x.e, .string x.f]] w fun e w' => e = .returned (.string s) ∧ Below w.heap.size w w' := by subst h; exact ttext x w hx
theorem tcmp_e (x y : Tup) (v : Int) (w : World) (h : cmpT x y = v) :
    Calls Try.prog 7 #[.agg #[.string x.a, .string x.b, .string x.c, .string x.d, .string x.e, .string x.f], .agg #[.string y.a, .string y.b, .string y.c, .string y.d, .string y.e, .string y.f]] w fun e w' => e = .returned (.int .i64 v) ∧ Below w.heap.size w w' := by
  subst h; exact (tcmp x y w).mono fun _ _ h => ⟨h.1, h.2.toBelow⟩
theorem rtcmp_e (x y : Tup) (v : Int) (w : World) (hx : Fits x) (hy : Fits y) (h : cmpT x y = v) :
    Calls Try.prog 51 #[.agg #[.string x.a, .string x.b, .string x.c, .string x.d, .string x.e, .string x.f], .agg #[.string y.a, .string y.b, .string y.c, .string y.d, .string y.e, .string y.f]] w fun e w' => e = .returned (.int .i64 v) ∧ Below w.heap.size w w' := by
  subst h; exact (rtcmp x y w hx hy).mono fun _ _ h => ⟨h.1, h.2.toBelow⟩
theorem txtT_size {x : Tup} (h : Small x) : (txtT x).size ≤ 300 := by
  obtain ⟨z1, z2, z3, z4, z5, z6⟩ := h
  have m1 := gtxt_size z1 z2 z3
  have m2 := stxt_size z4 z5 z6
  unfold txtT
  rw [ByteArray.size_append, ByteArray.size_append]
  have : (ByteArray.mk #[64]).size = 1 := rfl
  omega


end Go.Proofs.Ytcdhejaoidjecaa
