/-
  TREESVIEWS' words for the walk: the state, what a look-up and an index answer.
-/
import Derived.Test.YthkceffnfhdjhaaDPW
import Derived.Test.YthkceffnfhdjhaaDNone
namespace Go.Proofs.Ythkceffnfhdjhaa
open Go.RowKit Go.Deep

theorem Tr.rk_at {v : Int} : ∀ {l : List (Int × Int)} {j : Nat} {k : Int}, Tr.Asc id l → l[j]? = some (k, v) → Tr.rkL id l k = j
  | [], j, k, _, h => by cases h
  | p :: t, 0, k, ha, h => by
    obtain ⟨h1, h2⟩ := Tr.asc_cons ha
    simp at h; subst h
    rw [Tr.rk_cons, Tr.rk_ge (fun q hq => Int.le_of_lt (h2 q hq))]; simp
  | p :: t, j + 1, k, ha, h => by
    obtain ⟨h1, h2⟩ := Tr.asc_cons ha
    have h' : t[j]? = some (k, v) := by simpa using h
    have h3 := h2 _ (List.mem_of_getElem? h')
    rw [Tr.rk_cons, Tr.rk_at h1 h', if_pos h3]
theorem Tr.rng_len (x y : Int) (l : List (Int × Int)) : (Tr.rng x y l).length ≤ l.length := by
  unfold Tr.rng
  rw [List.length_take, List.length_drop]; omega

/-- the state of TreesViews -/
structure VS (w W : World) (b q : Nat) (z0 z1 : Int) (T : Tr Int) (lm : List (Int × Int)) (A : Option Addr) (lr : List (Int × Int)) : Prop where
  zs : W.heap[b]? = some (.cells #[.int .i64 z0, .int .i64 z1] 42 (0, 0))
  box : BX oF W q T
  map : DI.MapL id W T lm
  row : RowQ W A lr
  bel : Below w.heap.size w W
  qw : w.heap.size ≤ q
section
variable {w W W' : World} {b q : Nat} {z0 z1 : Int} {T T' : Tr Int} {A A' : Option Addr} {lm lr l' : List (Int × Int)}
theorem VS.below (h : VS w W b q z0 z1 T lm A lr) (hb : Below W.heap.size W W') : VS w W' b q z0 z1 T lm A lr :=
  ⟨(hb.block b (Array.getElem?_eq_some_iff.1 h.zs).1).trans h.zs, h.box.below hb, h.map.below hb, h.row.below hb, g_trans h.bel hb, h.qw⟩
theorem VS.st (h : VS w W b q z0 z1 T lm A lr) (hm : DI.MapL id W T' l') : VS w (stB W q oF T') b q z0 z1 T' l' A lr :=
  ⟨z_st (T2 := T') h.box h.zs, h.box.st T', map_st hm h.box T', row_st h.row h.box T', below_st h.bel h.qw oF T', h.qw⟩
theorem VS.row' (h : VS w W b q z0 z1 T lm A lr) (hr : RowQ W A' l') : VS w W b q z0 z1 T lm A' l' := ⟨h.zs, h.box, h.map, hr, h.bel, h.qw⟩
theorem VS.cells (h : VS w W b q z0 z1 T lm A lr) : (W.cell? ⟨b, 0, none⟩ = some (.int .i64 z0) ∧ W.cell? ⟨b, 1, none⟩ = some (.int .i64 z1)) ∧ (W.cell? ⟨q, 0, none⟩ = some oF ∧ W.cell? ⟨q, 1, none⟩ = some (.pointer T.ad)) ∧ (W.frozen? ⟨q, 0, none⟩ = false ∧ W.frozen? ⟨q, 1, none⟩ = false) :=
  ⟨⟨(DI.box_cell h.zs 0).trans rfl, (DI.box_cell h.zs 1).trans rfl⟩, ⟨h.box.cells.1, h.box.cells.2.1⟩, h.box.cells.2.2⟩
theorem vs_start {w1 : World} {T : Tr Int} (hm : DI.MapL id w1 T []) (hb : Below (w.alloc (.cells #[.int .i64 z0, .int .i64 z1] 42 (0, 0))).heap.size (w.alloc (.cells #[.int .i64 z0, .int .i64 z1] 42 (0, 0))) w1) :
    VS w (w1.alloc (.cells #[oF, .pointer T.ad] 26 (0, 0))) w.heap.size w1.heap.size z0 z1 T [] none [] := by
  have hx : Below w1.heap.size w1 (w1.alloc (.cells #[oF, .pointer T.ad] 26 (0, 0))) := g_alloc g_refl _
  have h1 : Below w.heap.size w w1 := g_trans (g_alloc g_refl _) hb
  refine ⟨?_, bx_new w1 oF T, hm.below hx, fun h => absurd rfl h, g_trans h1 hx, h1.size⟩
  exact ((g_trans hb hx).block w.heap.size (by simp)).trans (heap_alloc_new w _)
end
/-- what Get of the map and Get of the reference answer -/
theorem get_k (l : List (Int × Int)) (k : Int) (ha : Tr.Asc id l) (hn : l.length ≤ 400000) : ∃ (s : Bool) (v a : Int),
    ((s = true ∧ ∃ j : Nat, a = (j : Int) ∧ l[j]? = some (k, v)) ∨ (s = false ∧ a = -1 ∧ v = 0)) ∧
    (∀ (T : Tr Int) (W : World), DI.MapL id W T l → Calls Try.prog 18 #[.agg #[oF, .pointer T.ad], .int .i64 k] W fun e w' => e = .returned (.tuple #[.int .i64 v, .bool s]) ∧ Below W.heap.size W w') ∧
    (∀ (A : Option Addr) (c : Nat) (W : World), RowQ W A l → Calls Try.prog 17 #[.slice A l.length c, .int .i64 k] W fun e w' => e = .returned (.int .i64 a) ∧ w' = W) := by
  by_cases hk : ∃ (j : Nat) (v : Int), l[j]? = some (k, v)
  · obtain ⟨j, v, hj⟩ := hk
    refine ⟨true, v, (j : Int), .inl ⟨rfl, j, rfl, hj⟩, fun T W h => ?_, fun A c W h => ?_⟩
    · exact DI.get_hit iOrd Tr.ordI_f (p := (k, v)) (List.mem_of_getElem? hj) rfl h (by omega)
    · refine (rget_any A c l k W h hn).mono ?_
      rintro e w' ⟨rfl, ⟨i, v', hi, rfl⟩ | ⟨hno, -⟩⟩
      · have h1 := Tr.rk_at ha hi
        have h2 := Tr.rk_at ha hj
        rw [h1] at h2; subst h2
        exact ⟨rfl, rfl⟩
      · exact absurd rfl (hno _ (List.mem_of_getElem? hj))
  · refine ⟨false, 0, -1, .inr ⟨rfl, rfl, rfl⟩, fun T W h => ?_, fun A c W h => ?_⟩
    · refine DI.get_miss iOrd Tr.ordI_f (fun p hp e => ?_) h (by omega)
      obtain ⟨j, hj⟩ := List.getElem?_of_mem hp
      exact hk ⟨j, p.2, by rw [hj]; exact congrArg some (Prod.ext e rfl)⟩
    · refine (rget_any A c l k W h hn).mono ?_
      rintro e w' ⟨rfl, ⟨i, v', hi, rfl⟩ | ⟨-, rfl⟩⟩
      · exact absurd ⟨i, v', hi⟩ hk
      · exact ⟨rfl, rfl⟩
/-- what At answers -/
def AtP (l : List (Int × Int)) (z x y e : Int) : Prop := (0 ≤ z ∧ z < (l.length : Int) ∧ l[z.toNat]? = some (x, y) ∧ e = 0) ∨ ((z < 0 ∨ (l.length : Int) ≤ z) ∧ x = 0 ∧ y = 0 ∧ e = 4)
theorem at_z (l : List (Int × Int)) (z : Int) (hn : l.length ≤ 400000) : ∃ x y e, AtP l z x y e ∧
    ∀ (T : Tr Int) (W : World), DI.MapL id W T l → Calls Try.prog 21 #[.agg #[oF, .pointer T.ad], .int .i64 z] W fun r w' => r = .returned (.tuple #[.agg #[.int .i64 x, .int .i64 y], .int .i64 e]) ∧ Below W.heap.size W w' := by
  by_cases h : z < 0 ∨ (l.length : Int) ≤ z
  · exact ⟨0, 0, 4, .inr ⟨h, rfl, rfl, rfl⟩, fun T W hm => DI.at_out _ h hm⟩
  · obtain ⟨j, rfl⟩ : ∃ j : Nat, z = (j : Int) := ⟨z.toNat, by omega⟩
    have hj : j < l.length := by omega
    obtain ⟨⟨x, y⟩, hp⟩ : ∃ p, l[j]? = some p := ⟨_, List.getElem?_eq_getElem hj⟩
    exact ⟨x, y, 0, .inl ⟨by omega, by omega, by simpa using hp, rfl⟩, fun T W hm => DI.at_l _ hp hm (by omega)⟩
/-- two numbers, by their place -/
def zAt (z0 z1 : Int) (i : Nat) : Int := if i = 0 then z0 else z1
theorem VS.z_at {w W : World} {b q : Nat} {z0 z1 : Int} {T : Tr Int} {A : Option Addr} {lm lr : List (Int × Int)} (h : VS w W b q z0 z1 T lm A lr) {i : Nat} (hi : i < 2) : W.cell? ⟨b, i, none⟩ = some (.int .i64 (zAt z0 z1 i)) := by
  rcases (show i = 0 ∨ i = 1 by omega) with rfl | rfl
  · exact h.cells.1.1
  · exact h.cells.1.2
theorem keepB {a a' : World} {q : Nat} {u v : Value} (h : Below a.heap.size a a') (k : a.cell? ⟨q, 0, none⟩ = some u ∧ a.cell? ⟨q, 1, none⟩ = some v) : a'.cell? ⟨q, 0, none⟩ = some u ∧ a'.cell? ⟨q, 1, none⟩ = some v :=
  ⟨keep5 h k.1, keep5 h k.2⟩
theorem keepD {a a' : World} {p q : Nat} {u v x y : Value} (h : Below a.heap.size a a') (k : (a.cell? ⟨p, 0, none⟩ = some u ∧ a.cell? ⟨p, 1, none⟩ = some v) ∧ (a.cell? ⟨q, 0, none⟩ = some x ∧ a.cell? ⟨q, 1, none⟩ = some y)) :
    (a'.cell? ⟨p, 0, none⟩ = some u ∧ a'.cell? ⟨p, 1, none⟩ = some v) ∧ (a'.cell? ⟨q, 0, none⟩ = some x ∧ a'.cell? ⟨q, 1, none⟩ = some y) := ⟨keepB h k.1, keepB h k.2⟩
theorem keepS {W : World} {q g : Nat} {u v a b : Value} (hq : q < g) (k : W.cell? ⟨q, 0, none⟩ = some u ∧ W.cell? ⟨q, 1, none⟩ = some v) : ((W.setCell ⟨g, 0, none⟩ a).setCell ⟨g, 1, none⟩ b).cell? ⟨q, 0, none⟩ = some u ∧ ((W.setCell ⟨g, 0, none⟩ a).setCell ⟨g, 1, none⟩ b).cell? ⟨q, 1, none⟩ = some v := by
  have h : Below (q + 1) W ((W.setCell ⟨g, 0, none⟩ a).setCell ⟨g, 1, none⟩ b) := ((Below.refl (q + 1) W).setCell (p := ⟨g, 0, none⟩) hq a).setCell (p := ⟨g, 1, none⟩) hq b
  exact ⟨(h.cell (p := ⟨q, 0, none⟩) (Nat.lt_succ_self q)).trans k.1, (h.cell (p := ⟨q, 1, none⟩) (Nat.lt_succ_self q)).trans k.2⟩
theorem keepA {W : World} {q : Nat} {u v : Value} {o o' : Obj} (hq : q < W.heap.size) (k : (W.alloc o).cell? ⟨q, 0, none⟩ = some u ∧ (W.alloc o).cell? ⟨q, 1, none⟩ = some v) : (W.alloc o').cell? ⟨q, 0, none⟩ = some u ∧ (W.alloc o').cell? ⟨q, 1, none⟩ = some v := by
  have h1 := bcell (g_alloc (g_refl (a := W)) o)
  have h2 := bcell (g_alloc (g_refl (a := W)) o')
  exact ⟨(h2.1 q 0 hq).trans ((h1.1 q 0 hq).symm.trans k.1), (h2.1 q 1 hq).trans ((h1.1 q 1 hq).symm.trans k.2)⟩
theorem keepE {a a' : World} {q b i : Nat} {u v z : Value} (h : Below a.heap.size a a') (k : (a.cell? ⟨q, 0, none⟩ = some u ∧ a.cell? ⟨q, 1, none⟩ = some v) ∧ a.cell? ⟨b, i, none⟩ = some z) :
    (a'.cell? ⟨q, 0, none⟩ = some u ∧ a'.cell? ⟨q, 1, none⟩ = some v) ∧ a'.cell? ⟨b, i, none⟩ = some z := ⟨keepB h k.1, keep5 h k.2⟩
theorem keepES {W : World} {q b i g : Nat} {u v z x y : Value} (hq : q < g) (hb : b < g) (k : (W.cell? ⟨q, 0, none⟩ = some u ∧ W.cell? ⟨q, 1, none⟩ = some v) ∧ W.cell? ⟨b, i, none⟩ = some z) :
    (((W.setCell ⟨g, 0, none⟩ x).setCell ⟨g, 1, none⟩ y).cell? ⟨q, 0, none⟩ = some u ∧ ((W.setCell ⟨g, 0, none⟩ x).setCell ⟨g, 1, none⟩ y).cell? ⟨q, 1, none⟩ = some v) ∧ ((W.setCell ⟨g, 0, none⟩ x).setCell ⟨g, 1, none⟩ y).cell? ⟨b, i, none⟩ = some z := by
  refine ⟨keepS hq k.1, ?_⟩
  have h : Below (b + 1) W ((W.setCell ⟨g, 0, none⟩ x).setCell ⟨g, 1, none⟩ y) := ((Below.refl (b + 1) W).setCell (p := ⟨g, 0, none⟩) hb x).setCell (p := ⟨g, 1, none⟩) hb y
  exact (h.cell (p := ⟨b, i, none⟩) (Nat.lt_succ_self b)).trans k.2
theorem keepEA {W : World} {q b i : Nat} {u v z : Value} {o o' : Obj} (hq : q < W.heap.size) (hb : b < W.heap.size) (k : ((W.alloc o).cell? ⟨q, 0, none⟩ = some u ∧ (W.alloc o).cell? ⟨q, 1, none⟩ = some v) ∧ (W.alloc o).cell? ⟨b, i, none⟩ = some z) :
    ((W.alloc o').cell? ⟨q, 0, none⟩ = some u ∧ (W.alloc o').cell? ⟨q, 1, none⟩ = some v) ∧ (W.alloc o').cell? ⟨b, i, none⟩ = some z :=
  ⟨keepA hq k.1, ((bcell (g_alloc (g_refl (a := W)) o')).1 b i hb).trans (((bcell (g_alloc (g_refl (a := W)) o)).1 b i hb).symm.trans k.2)⟩
/-- a block of two cells -/
def Two (W : World) (g : Nat) (t : TypeId) (a b : Value) : Prop := W.heap[g]? = some (.cells #[a, b] t (0, 0))
section
variable {W x : World} {g : Nat} {t : TypeId} {a b u v : Value}
theorem two_new (hb : Below (W.alloc (.cells #[a, b] t (0, 0))).heap.size (W.alloc (.cells #[a, b] t (0, 0))) x) : Two x W.heap.size t a b :=
  (hb.block W.heap.size (by simp)).trans (heap_alloc_new W _)
theorem two_drew (hb : Below (W.alloc (.cells #[a, b] t (0, 0))).drew.heap.size (W.alloc (.cells #[a, b] t (0, 0))).drew x) : Two x W.heap.size t a b :=
  two_new (g_trans (g_drew (g_refl (a := W.alloc (.cells #[a, b] t (0, 0))))) hb)
theorem Two.lt (h : Two W g t a b) : g < W.heap.size := (Array.getElem?_eq_some_iff.1 h).1
theorem Two.below (h : Two W g t a b) (hb : Below W.heap.size W x) : Two x g t a b := (hb.block g h.lt).trans h
theorem Two.cells (h : Two W g t a b) : W.cell? ⟨g, 0, none⟩ = some a ∧ W.cell? ⟨g, 1, none⟩ = some b ∧ W.frozen? ⟨g, 0, none⟩ = false ∧ W.frozen? ⟨g, 1, none⟩ = false :=
  ⟨(DI.box_cell h 0).trans rfl, (DI.box_cell h 1).trans rfl, DI.box_frozen h 0, DI.box_frozen h 1⟩
theorem Two.set (h : Two W g t a b) (u v : Value) : Two ((W.setCell ⟨g, 0, none⟩ u).setCell ⟨g, 1, none⟩ v) g t u v := by
  have h2 : (W.setCell ⟨g, 0, none⟩ u).heap[g]? = some (.cells (#[a, b].setIfInBounds 0 u) t (0, 0)) := heap_setCell_same W g 0 _ _ u h
  exact heap_setCell_same _ g 1 _ _ _ h2
theorem two_alloc (W : World) (u v : Value) (t : TypeId) : Two (W.alloc (.cells #[u, v] t (0, 0))) W.heap.size t u v := heap_alloc_new W _
end
end Go.Proofs.Ythkceffnfhdjhaa
