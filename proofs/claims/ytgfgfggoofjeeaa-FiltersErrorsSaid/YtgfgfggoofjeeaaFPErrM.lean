/-
  FiltersErrors returns true: the walk.
  BLOCKS that a region makes, and stores into: a filter is stored by one law, and the world behind it stands under a name of its own.
  FiltersErrors returns true: the walk.
  FiltersErrors: for every filter, list of tuples and drawn filter the call returns true, and they read as before. No condition.
-/
import Derived.Test.YtgfgfggoofjeeaaFFac
import Derived.Deep.CutRange
import Derived.Deep.DeepCutAuto
import Derived.Deep.RegionWith
import Derived.Deep.MidRow
import Derived.BigQuiet
import Derived.Test.YtgfgfggoofjeeaaTArg2
namespace Go.Proofs.Ytgfgfggoofjeeaa
open Go.RowKit Go.Sort

theorem er_keep {o o2 : Nat} {a b c d e f : ByteArray} {x : Bool} {p q n : Nat} {W W' : World} (hb : Below W.heap.size W W') (h : W.cell? ⟨o, 0, none⟩ = some (.string a) ∧ W.cell? ⟨o, 1, none⟩ = some (.string b) ∧ W.cell? ⟨o, 2, none⟩ = some (.string c) ∧ W.cell? ⟨o, 3, none⟩ = some (.string d) ∧ W.cell? ⟨o, 4, none⟩ = some (.string e) ∧ W.cell? ⟨o, 5, none⟩ = some (.string f) ∧ W.cell? ⟨o, 6, none⟩ = some (.bool x) ∧ W.cell? ⟨o2, 0, none⟩ = some (.int .u8 p) ∧ W.cell? ⟨o2, 1, none⟩ = some (.int .u8 q) ∧ W.cell? ⟨o2, 2, none⟩ = some (.int .u8 n)) : W'.cell? ⟨o, 0, none⟩ = some (.string a) ∧ W'.cell? ⟨o, 1, none⟩ = some (.string b) ∧ W'.cell? ⟨o, 2, none⟩ = some (.string c) ∧ W'.cell? ⟨o, 3, none⟩ = some (.string d) ∧ W'.cell? ⟨o, 4, none⟩ = some (.string e) ∧ W'.cell? ⟨o, 5, none⟩ = some (.string f) ∧ W'.cell? ⟨o, 6, none⟩ = some (.bool x) ∧ W'.cell? ⟨o2, 0, none⟩ = some (.int .u8 p) ∧ W'.cell? ⟨o2, 1, none⟩ = some (.int .u8 q) ∧ W'.cell? ⟨o2, 2, none⟩ = some (.int .u8 n) := by
  obtain ⟨h0, h1, h2, h3, h4, h5, h6, k0, k1, k2⟩ := h
  have r := fun i v (h : W.cell? ⟨o, i, none⟩ = some v) => (own_cells hb o (World.block_lt_of_cell? _ _ h) i).1.trans h
  have t := fun i v (h : W.cell? ⟨o2, i, none⟩ = some v) => (own_cells hb o2 (World.block_lt_of_cell? _ _ h) i).1.trans h
  exact ⟨r _ _ h0, r _ _ h1, r _ _ h2, r _ _ h3, r _ _ h4, r _ _ h5, r _ _ h6, t _ _ k0, t _ _ k1, t _ _ k2⟩
theorem er_low {o o2 : Nat} {a b c d e f : ByteArray} {x : Bool} {p q n : Nat} {W W' : World} {B : Nat} (hb : Below B W W') (ho : o < B) (ho2 : o2 < B) (h : W.cell? ⟨o, 0, none⟩ = some (.string a) ∧ W.cell? ⟨o, 1, none⟩ = some (.string b) ∧ W.cell? ⟨o, 2, none⟩ = some (.string c) ∧ W.cell? ⟨o, 3, none⟩ = some (.string d) ∧ W.cell? ⟨o, 4, none⟩ = some (.string e) ∧ W.cell? ⟨o, 5, none⟩ = some (.string f) ∧ W.cell? ⟨o, 6, none⟩ = some (.bool x) ∧ W.cell? ⟨o2, 0, none⟩ = some (.int .u8 p) ∧ W.cell? ⟨o2, 1, none⟩ = some (.int .u8 q) ∧ W.cell? ⟨o2, 2, none⟩ = some (.int .u8 n)) : W'.cell? ⟨o, 0, none⟩ = some (.string a) ∧ W'.cell? ⟨o, 1, none⟩ = some (.string b) ∧ W'.cell? ⟨o, 2, none⟩ = some (.string c) ∧ W'.cell? ⟨o, 3, none⟩ = some (.string d) ∧ W'.cell? ⟨o, 4, none⟩ = some (.string e) ∧ W'.cell? ⟨o, 5, none⟩ = some (.string f) ∧ W'.cell? ⟨o, 6, none⟩ = some (.bool x) ∧ W'.cell? ⟨o2, 0, none⟩ = some (.int .u8 p) ∧ W'.cell? ⟨o2, 1, none⟩ = some (.int .u8 q) ∧ W'.cell? ⟨o2, 2, none⟩ = some (.int .u8 n) := by
  obtain ⟨h0, h1, h2, h3, h4, h5, h6, k0, k1, k2⟩ := h
  have r := fun i v (h : W.cell? ⟨o, i, none⟩ = some v) => (hb.cell (p := ⟨o, i, none⟩) ho).trans h
  have t := fun i v (h : W.cell? ⟨o2, i, none⟩ = some v) => (hb.cell (p := ⟨o2, i, none⟩) ho2).trans h
  exact ⟨r _ _ h0, r _ _ h1, r _ _ h2, r _ _ h3, r _ _ h4, r _ _ h5, r _ _ h6, t _ _ k0, t _ _ k1, t _ _ k2⟩
/-- a fresh block is written -/
theorem er_set7 {o o2 : Nat} {a b c d e f : ByteArray} {x : Bool} {p q n : Nat} {W : World} {g : Nat} {u0 u1 u2 u3 u4 u5 u6 : Value} (ho : o < g) (ho2 : o2 < g) (h : W.cell? ⟨o, 0, none⟩ = some (.string a) ∧ W.cell? ⟨o, 1, none⟩ = some (.string b) ∧ W.cell? ⟨o, 2, none⟩ = some (.string c) ∧ W.cell? ⟨o, 3, none⟩ = some (.string d) ∧ W.cell? ⟨o, 4, none⟩ = some (.string e) ∧ W.cell? ⟨o, 5, none⟩ = some (.string f) ∧ W.cell? ⟨o, 6, none⟩ = some (.bool x) ∧ W.cell? ⟨o2, 0, none⟩ = some (.int .u8 p) ∧ W.cell? ⟨o2, 1, none⟩ = some (.int .u8 q) ∧ W.cell? ⟨o2, 2, none⟩ = some (.int .u8 n)) : ((((((((W).setCell ⟨g, 0, none⟩ u0).setCell ⟨g, 1, none⟩ u1).setCell ⟨g, 2, none⟩ u2).setCell ⟨g, 3, none⟩ u3).setCell ⟨g, 4, none⟩ u4).setCell ⟨g, 5, none⟩ u5).setCell ⟨g, 6, none⟩ u6).cell? ⟨o, 0, none⟩ = some (.string a) ∧ ((((((((W).setCell ⟨g, 0, none⟩ u0).setCell ⟨g, 1, none⟩ u1).setCell ⟨g, 2, none⟩ u2).setCell ⟨g, 3, none⟩ u3).setCell ⟨g, 4, none⟩ u4).setCell ⟨g, 5, none⟩ u5).setCell ⟨g, 6, none⟩ u6).cell? ⟨o, 1, none⟩ = some (.string b) ∧ ((((((((W).setCell ⟨g, 0, none⟩ u0).setCell ⟨g, 1, none⟩ u1).setCell ⟨g, 2, none⟩ u2).setCell ⟨g, 3, none⟩ u3).setCell ⟨g, 4, none⟩ u4).setCell ⟨g, 5, none⟩ u5).setCell ⟨g, 6, none⟩ u6).cell? ⟨o, 2, none⟩ = some (.string c) ∧ ((((((((W).setCell ⟨g, 0, none⟩ u0).setCell ⟨g, 1, none⟩ u1).setCell ⟨g, 2, none⟩ u2).setCell ⟨g, 3, none⟩ u3).setCell ⟨g, 4, none⟩ u4).setCell ⟨g, 5, none⟩ u5).setCell ⟨g, 6, none⟩ u6).cell? ⟨o, 3, none⟩ = some (.string d) ∧ ((((((((W).setCell ⟨g, 0, none⟩ u0).setCell ⟨g, 1, none⟩ u1).setCell ⟨g, 2, none⟩ u2).setCell ⟨g, 3, none⟩ u3).setCell ⟨g, 4, none⟩ u4).setCell ⟨g, 5, none⟩ u5).setCell ⟨g, 6, none⟩ u6).cell? ⟨o, 4, none⟩ = some (.string e) ∧ ((((((((W).setCell ⟨g, 0, none⟩ u0).setCell ⟨g, 1, none⟩ u1).setCell ⟨g, 2, none⟩ u2).setCell ⟨g, 3, none⟩ u3).setCell ⟨g, 4, none⟩ u4).setCell ⟨g, 5, none⟩ u5).setCell ⟨g, 6, none⟩ u6).cell? ⟨o, 5, none⟩ = some (.string f) ∧ ((((((((W).setCell ⟨g, 0, none⟩ u0).setCell ⟨g, 1, none⟩ u1).setCell ⟨g, 2, none⟩ u2).setCell ⟨g, 3, none⟩ u3).setCell ⟨g, 4, none⟩ u4).setCell ⟨g, 5, none⟩ u5).setCell ⟨g, 6, none⟩ u6).cell? ⟨o, 6, none⟩ = some (.bool x) ∧ ((((((((W).setCell ⟨g, 0, none⟩ u0).setCell ⟨g, 1, none⟩ u1).setCell ⟨g, 2, none⟩ u2).setCell ⟨g, 3, none⟩ u3).setCell ⟨g, 4, none⟩ u4).setCell ⟨g, 5, none⟩ u5).setCell ⟨g, 6, none⟩ u6).cell? ⟨o2, 0, none⟩ = some (.int .u8 p) ∧ ((((((((W).setCell ⟨g, 0, none⟩ u0).setCell ⟨g, 1, none⟩ u1).setCell ⟨g, 2, none⟩ u2).setCell ⟨g, 3, none⟩ u3).setCell ⟨g, 4, none⟩ u4).setCell ⟨g, 5, none⟩ u5).setCell ⟨g, 6, none⟩ u6).cell? ⟨o2, 1, none⟩ = some (.int .u8 q) ∧ ((((((((W).setCell ⟨g, 0, none⟩ u0).setCell ⟨g, 1, none⟩ u1).setCell ⟨g, 2, none⟩ u2).setCell ⟨g, 3, none⟩ u3).setCell ⟨g, 4, none⟩ u4).setCell ⟨g, 5, none⟩ u5).setCell ⟨g, 6, none⟩ u6).cell? ⟨o2, 2, none⟩ = some (.int .u8 n) :=
  er_low (B := max o o2 + 1) (((((((Below.refl _ W).setCell (p := ⟨g, 0, none⟩) (by show _ ≤ g; omega) u0).setCell (p := ⟨g, 1, none⟩) (by show _ ≤ g; omega) u1).setCell (p := ⟨g, 2, none⟩) (by show _ ≤ g; omega) u2).setCell (p := ⟨g, 3, none⟩) (by show _ ≤ g; omega) u3).setCell (p := ⟨g, 4, none⟩) (by show _ ≤ g; omega) u4).setCell (p := ⟨g, 5, none⟩) (by show _ ≤ g; omega) u5 |>.setCell (p := ⟨g, 6, none⟩) (by show _ ≤ g; omega) u6) (by omega) (by omega) h
/-- another block is made in its place -/
theorem er_all {o o2 : Nat} {a b c d e f : ByteArray} {x : Bool} {p q n : Nat} {W : World} {k k' : Obj} (ho : o < W.heap.size) (ho2 : o2 < W.heap.size) (h : (W.alloc k).cell? ⟨o, 0, none⟩ = some (.string a) ∧ (W.alloc k).cell? ⟨o, 1, none⟩ = some (.string b) ∧ (W.alloc k).cell? ⟨o, 2, none⟩ = some (.string c) ∧ (W.alloc k).cell? ⟨o, 3, none⟩ = some (.string d) ∧ (W.alloc k).cell? ⟨o, 4, none⟩ = some (.string e) ∧ (W.alloc k).cell? ⟨o, 5, none⟩ = some (.string f) ∧ (W.alloc k).cell? ⟨o, 6, none⟩ = some (.bool x) ∧ (W.alloc k).cell? ⟨o2, 0, none⟩ = some (.int .u8 p) ∧ (W.alloc k).cell? ⟨o2, 1, none⟩ = some (.int .u8 q) ∧ (W.alloc k).cell? ⟨o2, 2, none⟩ = some (.int .u8 n)) : (W.alloc k').cell? ⟨o, 0, none⟩ = some (.string a) ∧ (W.alloc k').cell? ⟨o, 1, none⟩ = some (.string b) ∧ (W.alloc k').cell? ⟨o, 2, none⟩ = some (.string c) ∧ (W.alloc k').cell? ⟨o, 3, none⟩ = some (.string d) ∧ (W.alloc k').cell? ⟨o, 4, none⟩ = some (.string e) ∧ (W.alloc k').cell? ⟨o, 5, none⟩ = some (.string f) ∧ (W.alloc k').cell? ⟨o, 6, none⟩ = some (.bool x) ∧ (W.alloc k').cell? ⟨o2, 0, none⟩ = some (.int .u8 p) ∧ (W.alloc k').cell? ⟨o2, 1, none⟩ = some (.int .u8 q) ∧ (W.alloc k').cell? ⟨o2, 2, none⟩ = some (.int .u8 n) := by
  have r := bcell (g_alloc (g_refl (a := W)) k)
  have t := bcell (g_alloc (g_refl (a := W)) k')
  obtain ⟨h0, h1, h2, h3, h4, h5, h6, k0, k1, k2⟩ := h
  have z := fun i v (h : (W.alloc k).cell? ⟨o, i, none⟩ = some v) => (t.1 o i ho).trans ((r.1 o i ho).symm.trans h)
  have z2 := fun i v (h : (W.alloc k).cell? ⟨o2, i, none⟩ = some v) => (t.1 o2 i ho2).trans ((r.1 o2 i ho2).symm.trans h)
  exact ⟨z _ _ h0, z _ _ h1, z _ _ h2, z _ _ h3, z _ _ h4, z _ _ h5, z _ _ h6, z2 _ _ k0, z2 _ _ k1, z2 _ _ k2⟩
/-- a block with a filter -/
def FH (W : World) (g : Nat) (vs : Array Value) : Prop := vs.size = 7 ∧ W.heap[g]? = some (.cells vs 35 (0, 0))
theorem FH.lt {W : World} {g : Nat} {vs : Array Value} (h : FH W g vs) : g < W.heap.size := (Array.getElem?_eq_some_iff.1 h.2).1
theorem FH.below {W W' : World} {g : Nat} {vs : Array Value} (h : FH W g vs) (hb : Below W.heap.size W W') : FH W' g vs := ⟨h.1, (hb.block g h.lt).trans h.2⟩
theorem FH.cell {W : World} {g : Nat} {vs : Array Value} (h : FH W g vs) (i : Nat) : W.cell? ⟨g, i, none⟩ = vs[i]? := by simp [World.cell?, h.2]
theorem FH.frozen {W : World} {g : Nat} {vs : Array Value} (h : FH W g vs) (i : Nat) : W.frozen? ⟨g, i, none⟩ = false := by simp [World.frozen?, h.2]
theorem FH.set {W : World} {g : Nat} {vs : Array Value} (h : FH W g vs) (i : Nat) (v : Value) : FH (W.setCell ⟨g, i, none⟩ v) g (vs.setIfInBounds i v) := ⟨by simp [h.1], heap_setCell_same W g i _ _ v h.2⟩
theorem fh_new {W x : World} {vs : Array Value} (hs : vs.size = 7) (hb : Below (W.alloc (.cells vs 35 (0, 0))).heap.size (W.alloc (.cells vs 35 (0, 0))) x) : FH x W.heap.size vs :=
  ⟨hs, (hb.block W.heap.size (by simp)).trans (heap_alloc_new W _)⟩
theorem fh_drew {W x : World} {vs : Array Value} (hs : vs.size = 7) (hb : Below (W.alloc (.cells vs 35 (0, 0))).drew.heap.size (W.alloc (.cells vs 35 (0, 0))).drew x) : FH x W.heap.size vs :=
  fh_new hs (g_trans (g_drew (g_refl (a := W.alloc (.cells vs 35 (0, 0))))) hb)
abbrev z7 : Array Value := #[.string ⟨#[]⟩, .string ⟨#[]⟩, .string ⟨#[]⟩, .string ⟨#[]⟩, .string ⟨#[]⟩, .string ⟨#[]⟩, .bool false]
theorem FH.seven {W : World} {g : Nat} (h : FH W g z7) : (W.cell? ⟨g, 0, none⟩ = some (.string ⟨#[]⟩) ∧ W.cell? ⟨g, 1, none⟩ = some (.string ⟨#[]⟩) ∧ W.cell? ⟨g, 2, none⟩ = some (.string ⟨#[]⟩) ∧ W.cell? ⟨g, 3, none⟩ = some (.string ⟨#[]⟩) ∧ W.cell? ⟨g, 4, none⟩ = some (.string ⟨#[]⟩) ∧ W.cell? ⟨g, 5, none⟩ = some (.string ⟨#[]⟩) ∧ W.cell? ⟨g, 6, none⟩ = some (.bool false)) ∧ (∀ i, W.frozen? ⟨g, i, none⟩ = false) :=
  ⟨⟨h.cell 0, h.cell 1, h.cell 2, h.cell 3, h.cell 4, h.cell 5, h.cell 6⟩, h.frozen⟩
theorem below_set7 {a b : World} {g : Nat} (h : Below a.heap.size a b) (hg : a.heap.size ≤ g) (u0 u1 u2 u3 u4 u5 u6 : Value) : Below a.heap.size a ((((((((b).setCell ⟨g, 0, none⟩ u0).setCell ⟨g, 1, none⟩ u1).setCell ⟨g, 2, none⟩ u2).setCell ⟨g, 3, none⟩ u3).setCell ⟨g, 4, none⟩ u4).setCell ⟨g, 5, none⟩ u5).setCell ⟨g, 6, none⟩ u6) :=
  g_set (g_set (g_set (g_set (g_set (g_set (g_set h hg _) hg _) hg _) hg _) hg _) hg _) hg _
theorem orI_l (n : Int) : orI n 0 = n := by unfold orI; split <;> omega
theorem orI_r (n : Int) : orI 0 n = n := by unfold orI; rw [if_pos rfl]
/-- Both, of a filter that may be wrong and one that is valid -/
def bothE (n : Int) (R : Fil × Bool × Int) : Prop := R.2.2 = n ∧ (¬ n = 0 → R = (zF, false, n))
theorem bothE_l {f g : Fil} {n : Int} (hf : fchk f = n) (hg : fchk g = 0) : bothE n (bothR f g) := by
  have h : orI (fchk f) (fchk g) = n := by rw [hf, hg, orI_l]
  by_cases h0 : n = 0
  · subst h0
    refine ⟨?_, fun k => absurd rfl k⟩
    cases hc : clash f g
    · rw [bothR_yes h hc]
    · rw [bothR_no h hc]
  · rw [bothR_err h h0]; exact ⟨rfl, fun _ => rfl⟩
theorem bothE_r {f g : Fil} {n : Int} (hf : fchk f = n) (hg : fchk g = 0) : bothE n (bothR g f) := by
  have h : orI (fchk g) (fchk f) = n := by rw [hf, hg, orI_r]
  by_cases h0 : n = 0
  · subst h0
    refine ⟨?_, fun k => absurd rfl k⟩
    cases hc : clash g f
    · rw [bothR_yes h hc]
    · rw [bothR_no h hc]
  · rw [bothR_err h h0]; exact ⟨rfl, fun _ => rfl⟩
theorem both_v (f g : Fil) (ra rb rc rd re rf : ByteArray) (rx u : Bool) (m : Int) (w : World) (hF : FitF f) (hG : FitF g) (hR : bothR f g = (⟨ra, rb, rc, rd, re, rf, rx⟩, u, m)) :
    Calls Try.prog 8 #[.agg #[.string f.a, .string f.b, .string f.c, .string f.d, .string f.e, .string f.f, .bool f.x], .agg #[.string g.a, .string g.b, .string g.c, .string g.d, .string g.e, .string g.f, .bool g.x]] w fun r w' => r = .returned (.tuple #[.agg #[.string ra, .string rb, .string rc, .string rd, .string re, .string rf, .bool rx], .bool u, .int .i64 m]) ∧ Below w.heap.size w w' := by
  have q := both_any f g w hF hG; unfold BothRet at q; rw [hR] at q; exact q
theorem ofF_v (p q n : Nat) (g : Fil) (w : World) (hp : p < 256) (hq : q < 256) (h : ofF p q n = g) :
    Calls Try.prog 7 #[.agg #[.int .u8 p, .int .u8 q, .int .u8 n]] w fun r w' => r = .returned (.agg #[.string g.a, .string g.b, .string g.c, .string g.d, .string g.e, .string g.f, .bool g.x]) ∧ Grew w w' := by
  have q := ofF_any p q n w hp hq; rw [h] at q; exact q
theorem fprefix_v (a b c d e f : ByteArray) (x : Bool) (n : Int) (w : World) (h : fpre ⟨a, b, c, d, e, f, x⟩ = n) :
    Calls Try.prog 15 #[.agg #[.string a, .string b, .string c, .string d, .string e, .string f, .bool x]] w fun r w' => r = .returned (.int .i64 n) ∧ Below w.heap.size w w' := by
  have q := fprefix ⟨a, b, c, d, e, f, x⟩ w; rw [h] at q; exact q
theorem ris_v (A : Option Addr) (l : List Tup) (c : Nat) (u : Bool) (w : World) (hR : Row w A l) (hF : ∀ x ∈ l, Fits x) (hn : l.length ≤ maxLen) (h : isB cmpT l = u) :
    Calls Try.prog 12 #[.slice A l.length c] w fun e w' => e = .returned (.int .i64 (if u then 1 else 0)) ∧ Grew w w' := by
  have q := ris A l c w hR hF hn; unfold isI at q; rw [h] at q; exact q

/-- Span and Select, whatever the filter and the list are -/
theorem err_calls (F : Fil) (A : Option Addr) (l : List Tup) (cl : Nat) (k : Int) (hF : FitF F) (hc : l.length ≤ cl) (hA : (A = none ∧ cl = 0) ∨ ∃ b o, A = some ⟨b, o, none⟩) (hln : l.length ≤ 20) (hk : fchk F = k) : ∃ m fr t2 : Int,
    ((¬ k = 0 ∧ m = k) ∨ (k = 0 ∧ isB cmpT l = false ∧ m = 18) ∨ (k = 0 ∧ isB cmpT l = true ∧ m = 0)) ∧ (¬ m = 0 → fr = 0 ∧ t2 = 0) ∧ ((0 ≤ fr ∧ fr ≤ 20) ∧ (0 ≤ t2 ∧ t2 ≤ 20)) ∧
    (∀ W, Row W A l → Calls Try.prog 13 #[.slice A l.length cl, valF F] W fun r w' => r = .returned (.tuple #[.int .i64 fr, .int .i64 t2, .int .i64 m]) ∧ Below W.heap.size W w') ∧
    (∀ W, Row W A l → Calls Try.prog 14 #[.slice A l.length cl, valF F] W fun r w' => ∃ A' s, r = .returned (.tuple #[.slice A' s s, .int .i64 m]) ∧ s ≤ 20 ∧ (¬ m = 0 → s = 0) ∧ Below W.heap.size W w') := by
  have hmx : l.length ≤ maxLen := by unfold maxLen; omega
  by_cases h0 : k = 0
  · subst h0
    cases hb : isB cmpT l
    · refine ⟨18, 0, 0, .inr (.inl ⟨rfl, rfl, rfl⟩), fun _ => ⟨rfl, rfl⟩, by omega, fun W hW => span_ord F A l cl W hF hW hmx hk hb, fun W hW => ?_⟩
      exact (sel_err F (.slice A l.length cl) 18 W (by decide) (fun w' hb' => span_ord F A l cl w' hF (Row.below hW hb') hmx hk hb)).mono fun _ _ ⟨e, h⟩ => ⟨none, 0, e, by omega, fun _ => rfl, h⟩
    · have h1 := hi_le F l
      have h2 := lo_le F l
      refine ⟨0, lo F l, hi F l, .inr (.inr ⟨rfl, rfl, rfl⟩), fun h => absurd rfl h, by omega, fun W hW => span_ok F A l cl W hF hW (by omega) hk hb, fun W hW => ?_⟩
      have h3 : (l.filter (takes F)).length ≤ l.length := List.length_filter_le _ _
      exact (select_any F A l cl W hA hF hW hc (by omega) hk hb).mono fun _ _ ⟨A', e, _, _, h⟩ => ⟨A', _, e, by omega, fun h => absurd rfl h, h⟩
  · refine ⟨k, 0, 0, .inl ⟨h0, rfl⟩, fun _ => ⟨rfl, rfl⟩, by omega, fun W hW => span_chk F _ k W hF hk h0, fun W hW => ?_⟩
    exact (sel_err F (.slice A l.length cl) k W h0 (fun w' _ => span_chk F _ k w' hF hk h0)).mono fun _ _ ⟨e, h⟩ => ⟨none, 0, e, by omega, fun _ => rfl, h⟩
/-- the state behind the boxes -/
structure ES (w W : World) (a b c d e f : ByteArray) (x : Bool) (p q n : Nat) (A : Option Addr) (l : List Tup) : Prop where
  cells : W.cell? ⟨w.heap.size, 0, none⟩ = some (.string a) ∧ W.cell? ⟨w.heap.size, 1, none⟩ = some (.string b) ∧ W.cell? ⟨w.heap.size, 2, none⟩ = some (.string c) ∧ W.cell? ⟨w.heap.size, 3, none⟩ = some (.string d) ∧ W.cell? ⟨w.heap.size, 4, none⟩ = some (.string e) ∧ W.cell? ⟨w.heap.size, 5, none⟩ = some (.string f) ∧ W.cell? ⟨w.heap.size, 6, none⟩ = some (.bool x) ∧ W.cell? ⟨w.heap.size + 1, 0, none⟩ = some (.int .u8 p) ∧ W.cell? ⟨w.heap.size + 1, 1, none⟩ = some (.int .u8 q) ∧ W.cell? ⟨w.heap.size + 1, 2, none⟩ = some (.int .u8 n)
  row : Row W A l
  bel : Below w.heap.size w W
theorem ES.below {w W W' : World} {a b c d e f : ByteArray} {x : Bool} {p q n : Nat} {A : Option Addr} {l : List Tup} (h : ES w W a b c d e f x p q n A l) (hb : Below W.heap.size W W') : ES w W' a b c d e f x p q n A l :=
  ⟨er_keep hb h.cells, h.row.below hb, g_trans h.bel hb⟩
end Go.Proofs.Ytgfgfggoofjeeaa
namespace Go.Proofs.Ytgfgfggoofjeeaa.FB
open Go.RowKit Go.Sort

theorem box_cell {w : World} {b : Nat} {t : TypeId} {arr : Array Value} (h : w.heap[b]? = some (.cells arr t (0, 0))) (i : Nat) : w.cell? ⟨b, i, none⟩ = arr[i]? := by
  simp [World.cell?, h]
theorem box_frozen {w : World} {b : Nat} {t : TypeId} {arr : Array Value} (h : w.heap[b]? = some (.cells arr t (0, 0))) (i : Nat) : w.frozen? ⟨b, i, none⟩ = false := by
  simp [World.frozen?, h]
theorem new_at (w : World) (o : Obj) : (w.alloc o).heap[w.heap.size]? = some o := by
  show (w.heap.push o)[w.heap.size]? = _
  simp
theorem new_old {w : World} {g : Nat} {o x : Obj} (h : w.heap[g]? = some x) : (w.alloc o).heap[g]? = some x := by
  have hl := (Array.getElem?_eq_some_iff.1 h).1
  show (w.heap.push o)[g]? = _
  rw [Array.getElem?_push, if_neg (by omega)]; exact h
theorem fk1 {a b : World} {p o : Nat} {x : Value} (h : Below a.heap.size a b) (s : a.cell? ⟨p, o, none⟩ = some x) : b.cell? ⟨p, o, none⟩ = some x :=
  (h.cell (p := ⟨p, o, none⟩) (World.block_lt_of_cell? _ _ s)).trans s
/-- a block of a type with so many cells -/
def Blk (W : World) (g : Nat) (t : TypeId) (cs : Array Value) : Prop := W.heap[g]? = some (.cells cs t (0, 0))
def Big (W : World) (g : Nat) (t : TypeId) (n : Nat) : Prop := ∃ cs, Blk W g t cs ∧ cs.size = n
/-- the store, and the world behind it -/
def stB (t : TypeId) (p : Addr) (v : Value) : Sem Unit := storeVar t p v
def putB (W : World) (g : Nat) (cs : Array Value) : World := W.setCells g 0 cs.toList
section
variable {W x : World} {g k : Nat} {t t' : TypeId} {cs ds : Array Value} {n m : Nat}
theorem Blk.big (h : Blk W g t cs) : Big W g t cs.size := ⟨cs, h, rfl⟩
theorem Blk.lt (h : Blk W g t cs) : g < W.heap.size := (Array.getElem?_eq_some_iff.1 h).1
theorem Big.lt (h : Big W g t n) : g < W.heap.size := by obtain ⟨cs, h, -⟩ := h; exact h.lt
theorem Blk.below (h : Blk W g t cs) (hb : Below W.heap.size W x) : Blk x g t cs := (hb.block g h.lt).trans h
theorem Big.below (h : Big W g t n) (hb : Below W.heap.size W x) : Big x g t n := by obtain ⟨cs, h, e⟩ := h; exact ⟨cs, h.below hb, e⟩
theorem Blk.old (h : Blk W g t cs) (o : Obj) : Blk (W.alloc o) g t cs := new_old h
theorem Big.old (h : Big W g t n) (o : Obj) : Big (W.alloc o) g t n := by obtain ⟨cs, h, e⟩ := h; exact ⟨cs, h.old o, e⟩
theorem Blk.drew (h : Blk W g t cs) : Blk W.drew g t cs := h
theorem Big.drew (h : Big W g t n) : Big W.drew g t n := h
theorem Blk.new (W : World) (t : TypeId) (cs : Array Value) : Blk (W.alloc (.cells cs t (0, 0))) W.heap.size t cs := new_at _ _
theorem Blk.new1 (W : World) (o : Obj) (t : TypeId) (cs : Array Value) : Blk ((W.alloc o).alloc (.cells cs t (0, 0))) (W.heap.size + 1) t cs := by
  have h := Blk.new (W.alloc o) t cs
  rw [show (W.alloc o).heap.size = W.heap.size + 1 by simp] at h; exact h
theorem Blk.cell (h : Blk W g t cs) (j : Nat) : W.cell? ⟨g, j, none⟩ = cs[j]? := box_cell h j
theorem Big.there (h : Big W g t n) : W.there g 0 n := fun j hj => by
  obtain ⟨cs, h, e⟩ := h
  rw [Nat.zero_add, h.cell j, Array.getElem?_eq_getElem (by omega)]
  refine ⟨rfl, ?_⟩
  unfold Blk at h; simp [World.frozen?, h]
theorem set_blk (cs : List Value) : ∀ (W : World) (i : Nat) (ds : Array Value), Blk W g t ds → ∃ es, Blk (W.setCells g i cs) g t es ∧ es.size = ds.size := by
  induction cs with
  | nil => exact fun W i ds h => ⟨ds, h, rfl⟩
  | cons v r ih =>
    intro W i ds h
    obtain ⟨es, h2, e⟩ := ih (W.setCell ⟨g, i, none⟩ v) (i + 1) _ (heap_setCell_same W g i ds t v h)
    exact ⟨es, h2, by rw [e]; simp⟩
theorem set_apart (hn : ¬ k = g) (cs : List Value) : ∀ (W : World) (i : Nat), (W.setCells g i cs).heap[k]? = W.heap[k]? := by
  induction cs with
  | nil => exact fun W i => rfl
  | cons v r ih => intro W i; exact (ih (W.setCell ⟨g, i, none⟩ v) (i + 1)).trans (heap_setCell_other W ⟨g, i, none⟩ k v hn)
theorem Big.put (h : Big W g t n) (k : Nat) (cs : Array Value) : Big (putB W k cs) g t n := by
  obtain ⟨ds, h, e⟩ := h
  by_cases hk : g = k
  · subst hk
    obtain ⟨es, h2, e2⟩ := set_blk cs.toList W 0 ds h
    exact ⟨es, h2, e2.trans e⟩
  · exact ⟨ds, (set_apart hk cs.toList W 0).trans h, e⟩
theorem Blk.put (h : Blk W g t ds) (hn : ¬ g = k) (cs : Array Value) : Blk (putB W k cs) g t ds := (set_apart hn cs.toList W 0).trans h
theorem Big.same (h : Big W g t n) (cs : Array Value) (hn : cs.size = n) : Blk (putB W g cs) g t cs := by
  have ht := h.there
  obtain ⟨ds, h0, e⟩ := h
  obtain ⟨es, h2, e2⟩ := set_blk cs.toList W 0 ds h0
  have hr := World.rangeAt_setCells_same W g 0 cs.toList (by rw [Array.length_toList, hn]; exact ht)
  have : es = cs := by
    refine Array.ext (by omega) fun j h1 h3 => ?_
    have h4 := hr j cs[j] (by simp [h3])
    rw [Nat.zero_add] at h4
    have h5 := Blk.cell (W := putB W g cs) h2 j
    rw [show (putB W g cs).cell? ⟨g, j, none⟩ = some cs[j] from h4, Array.getElem?_eq_getElem h1] at h5
    exact (Option.some.inj h5).symm
  rw [← this]; rw [this]; rw [this] at h2; exact h2
theorem g_put {a b : World} (h : Below a.heap.size a b) (hp : a.heap.size ≤ g) (cs : Array Value) : Below a.heap.size a (putB b g cs) := by
  unfold putB
  generalize cs.toList = l
  suffices H : ∀ (l : List Value) (i : Nat) (b : World), Below a.heap.size a b → Below a.heap.size a (b.setCells g i l) from H l 0 b h
  intro l
  induction l with
  | nil => exact fun i b h => h
  | cons v r ih => intro i b h; exact ih (i + 1) _ (g_set h (p := ⟨g, i, none⟩) hp v)
theorem put_cell (hn : ¬ k = g) (i : Nat) (cs : Array Value) : (putB W g cs).cell? ⟨k, i, none⟩ = W.cell? ⟨k, i, none⟩ := by
  unfold putB; exact World.cell?_setCells_out g _ 0 W _ (fun e _ => absurd e hn)
end
theorem storeVar_fil (p : Addr) (v : Value) : storeVar 35 p v = stB 35 p v := rfl
theorem run_fil {W : World} {g : Nat} (h : Big W g 35 7) (a b c d e f : ByteArray) (x : Bool) :
    (stB 35 ⟨g, 0, none⟩ (.agg #[.string a, .string b, .string c, .string d, .string e, .string f, .bool x])).run Try.prog W = .ok () (putB W g #[.string a, .string b, .string c, .string d, .string e, .string f, .bool x]) :=
  run_storeVar_mid W g 0 35 #[.string a, .string b, .string c, .string d, .string e, .string f, .bool x] h.there (by kernel_rfl) (by simp [Value.oneCell'])
theorem bf_new (W : World) : Big (W.alloc (.cells #[.string ⟨#[]⟩, .string ⟨#[]⟩, .string ⟨#[]⟩, .string ⟨#[]⟩, .string ⟨#[]⟩, .string ⟨#[]⟩, .bool false] 35 (0, 0))) W.heap.size 35 7 := (Blk.new W _ _).big
theorem bf_new1 (W : World) (o : Obj) : Big ((W.alloc o).alloc (.cells #[.string ⟨#[]⟩, .string ⟨#[]⟩, .string ⟨#[]⟩, .string ⟨#[]⟩, .string ⟨#[]⟩, .string ⟨#[]⟩, .bool false] 35 (0, 0))) (W.heap.size + 1) 35 7 := (Blk.new1 W o _ _).big
theorem bf_newo (W : World) (o : Obj) : Big ((W.alloc (.cells #[.string ⟨#[]⟩, .string ⟨#[]⟩, .string ⟨#[]⟩, .string ⟨#[]⟩, .string ⟨#[]⟩, .string ⟨#[]⟩, .bool false] 35 (0, 0))).alloc o) W.heap.size 35 7 := (bf_new W).old o
theorem putB_sz (W : World) (g : Nat) (cs : Array Value) : (putB W g cs).heap.size = W.heap.size := by
  unfold putB
  generalize cs.toList = l
  suffices H : ∀ (l : List Value) (i : Nat) (W : World), (W.setCells g i l).heap.size = W.heap.size from H l 0 W
  intro l
  induction l with
  | nil => exact fun i W => rfl
  | cons v r ih => exact fun i W => (ih (i + 1) _).trans (by simp)
/-- both blocks lie ahead of the stores -/
theorem ends_a {w X : World} {g g' : Nat} {t1 t2 : TypeId} {n1 n2 : Nat} {cs ds : Array Value} (hX : Below w.heap.size w X) (h1 : Big X g t1 n1) (h2 : Big X g' t2 n2) (e1 : cs.size = n1) (e2 : ds.size = n2) (hne : ¬ g = g') (hg : w.heap.size ≤ g) (hg' : w.heap.size ≤ g') :
    ∃ p p', Value.pointer (some ⟨g, 0, none⟩) = Value.pointer (some ⟨p, 0, none⟩) ∧ Value.pointer (some ⟨g', 0, none⟩) = Value.pointer (some ⟨p', 0, none⟩) ∧ ¬ p = p' ∧ w.heap.size ≤ p ∧ w.heap.size ≤ p' ∧ Blk (putB (putB X g cs) g' ds) p t1 cs ∧ Blk (putB (putB X g cs) g' ds) p' t2 ds ∧ Below w.heap.size w (putB (putB X g cs) g' ds) :=
  ⟨g, g', rfl, rfl, hne, hg, hg', Blk.put (Big.same h1 _ e1) hne _, Big.same (Big.put h2 _ _) _ e2, g_put (g_put hX hg _) hg' _⟩
/-- the second block is made behind the first store -/
theorem ends_b {w X : World} {g : Nat} {t1 t2 : TypeId} {n1 : Nat} {cs ds zs : Array Value} (hX : Below w.heap.size w X) (h1 : Big X g t1 n1) (e1 : cs.size = n1) (hz : zs.size = ds.size) (hg : w.heap.size ≤ g) :
    ∃ p p', Value.pointer (some ⟨g, 0, none⟩) = Value.pointer (some ⟨p, 0, none⟩) ∧ Value.pointer (some ⟨(putB X g cs).heap.size, 0, none⟩) = Value.pointer (some ⟨p', 0, none⟩) ∧ ¬ p = p' ∧ w.heap.size ≤ p ∧ w.heap.size ≤ p' ∧ Blk (putB ((putB X g cs).alloc (.cells zs t2 (0, 0))) (putB X g cs).heap.size ds) p t1 cs ∧ Blk (putB ((putB X g cs).alloc (.cells zs t2 (0, 0))) (putB X g cs).heap.size ds) p' t2 ds ∧ Below w.heap.size w (putB ((putB X g cs).alloc (.cells zs t2 (0, 0))) (putB X g cs).heap.size ds) := by
  have hb := Big.same h1 cs e1
  have hl := hb.lt
  have hs : w.heap.size ≤ (putB X g cs).heap.size := by rw [putB_sz]; exact hX.size
  exact ⟨g, _, rfl, rfl, by omega, hg, hs, Blk.put (Blk.old hb _) (by omega) _, Big.same (hz ▸ (Blk.new _ _ _).big) _ rfl, g_put (g_alloc (g_put hX hg _) _) hs _⟩
theorem kpn10 {a b : World} {p0 p1 p2 p3 p4 p5 p6 p7 p8 p9 o0 o1 o2 o3 o4 o5 o6 o7 o8 o9 : Nat} {x0 x1 x2 x3 x4 x5 x6 x7 x8 x9 : Value} (h : Below a.heap.size a b)
    (s : a.cell? ⟨p0, o0, none⟩ = some x0 ∧ a.cell? ⟨p1, o1, none⟩ = some x1 ∧ a.cell? ⟨p2, o2, none⟩ = some x2 ∧ a.cell? ⟨p3, o3, none⟩ = some x3 ∧ a.cell? ⟨p4, o4, none⟩ = some x4 ∧ a.cell? ⟨p5, o5, none⟩ = some x5 ∧ a.cell? ⟨p6, o6, none⟩ = some x6 ∧ a.cell? ⟨p7, o7, none⟩ = some x7 ∧ a.cell? ⟨p8, o8, none⟩ = some x8 ∧ a.cell? ⟨p9, o9, none⟩ = some x9) : b.cell? ⟨p0, o0, none⟩ = some x0 ∧ b.cell? ⟨p1, o1, none⟩ = some x1 ∧ b.cell? ⟨p2, o2, none⟩ = some x2 ∧ b.cell? ⟨p3, o3, none⟩ = some x3 ∧ b.cell? ⟨p4, o4, none⟩ = some x4 ∧ b.cell? ⟨p5, o5, none⟩ = some x5 ∧ b.cell? ⟨p6, o6, none⟩ = some x6 ∧ b.cell? ⟨p7, o7, none⟩ = some x7 ∧ b.cell? ⟨p8, o8, none⟩ = some x8 ∧ b.cell? ⟨p9, o9, none⟩ = some x9 :=
  ⟨fk1 h s.1, fk1 h s.2.1, fk1 h s.2.2.1, fk1 h s.2.2.2.1, fk1 h s.2.2.2.2.1, fk1 h s.2.2.2.2.2.1, fk1 h s.2.2.2.2.2.2.1, fk1 h s.2.2.2.2.2.2.2.1, fk1 h s.2.2.2.2.2.2.2.2.1, fk1 h s.2.2.2.2.2.2.2.2.2⟩
theorem kpp10 {W : World} {g : Nat} {cs : Array Value} {p0 p1 p2 p3 p4 p5 p6 p7 p8 p9 o0 o1 o2 o3 o4 o5 o6 o7 o8 o9 : Nat} {x0 x1 x2 x3 x4 x5 x6 x7 x8 x9 : Value} (h0 : ¬ p0 = g) (h1 : ¬ p1 = g) (h2 : ¬ p2 = g) (h3 : ¬ p3 = g) (h4 : ¬ p4 = g) (h5 : ¬ p5 = g) (h6 : ¬ p6 = g) (h7 : ¬ p7 = g) (h8 : ¬ p8 = g) (h9 : ¬ p9 = g)
    (s : W.cell? ⟨p0, o0, none⟩ = some x0 ∧ W.cell? ⟨p1, o1, none⟩ = some x1 ∧ W.cell? ⟨p2, o2, none⟩ = some x2 ∧ W.cell? ⟨p3, o3, none⟩ = some x3 ∧ W.cell? ⟨p4, o4, none⟩ = some x4 ∧ W.cell? ⟨p5, o5, none⟩ = some x5 ∧ W.cell? ⟨p6, o6, none⟩ = some x6 ∧ W.cell? ⟨p7, o7, none⟩ = some x7 ∧ W.cell? ⟨p8, o8, none⟩ = some x8 ∧ W.cell? ⟨p9, o9, none⟩ = some x9) : (putB W g cs).cell? ⟨p0, o0, none⟩ = some x0 ∧ (putB W g cs).cell? ⟨p1, o1, none⟩ = some x1 ∧ (putB W g cs).cell? ⟨p2, o2, none⟩ = some x2 ∧ (putB W g cs).cell? ⟨p3, o3, none⟩ = some x3 ∧ (putB W g cs).cell? ⟨p4, o4, none⟩ = some x4 ∧ (putB W g cs).cell? ⟨p5, o5, none⟩ = some x5 ∧ (putB W g cs).cell? ⟨p6, o6, none⟩ = some x6 ∧ (putB W g cs).cell? ⟨p7, o7, none⟩ = some x7 ∧ (putB W g cs).cell? ⟨p8, o8, none⟩ = some x8 ∧ (putB W g cs).cell? ⟨p9, o9, none⟩ = some x9 :=
  ⟨(put_cell h0 _ _).trans s.1, (put_cell h1 _ _).trans s.2.1, (put_cell h2 _ _).trans s.2.2.1, (put_cell h3 _ _).trans s.2.2.2.1, (put_cell h4 _ _).trans s.2.2.2.2.1, (put_cell h5 _ _).trans s.2.2.2.2.2.1, (put_cell h6 _ _).trans s.2.2.2.2.2.2.1, (put_cell h7 _ _).trans s.2.2.2.2.2.2.2.1, (put_cell h8 _ _).trans s.2.2.2.2.2.2.2.2.1, (put_cell h9 _ _).trans s.2.2.2.2.2.2.2.2.2⟩
theorem kpn14 {a b : World} {p0 p1 p2 p3 p4 p5 p6 p7 p8 p9 p10 p11 p12 p13 o0 o1 o2 o3 o4 o5 o6 o7 o8 o9 o10 o11 o12 o13 : Nat} {x0 x1 x2 x3 x4 x5 x6 x7 x8 x9 x10 x11 x12 x13 : Value} (h : Below a.heap.size a b)
    (s : a.cell? ⟨p0, o0, none⟩ = some x0 ∧ a.cell? ⟨p1, o1, none⟩ = some x1 ∧ a.cell? ⟨p2, o2, none⟩ = some x2 ∧ a.cell? ⟨p3, o3, none⟩ = some x3 ∧ a.cell? ⟨p4, o4, none⟩ = some x4 ∧ a.cell? ⟨p5, o5, none⟩ = some x5 ∧ a.cell? ⟨p6, o6, none⟩ = some x6 ∧ a.cell? ⟨p7, o7, none⟩ = some x7 ∧ a.cell? ⟨p8, o8, none⟩ = some x8 ∧ a.cell? ⟨p9, o9, none⟩ = some x9 ∧ a.cell? ⟨p10, o10, none⟩ = some x10 ∧ a.cell? ⟨p11, o11, none⟩ = some x11 ∧ a.cell? ⟨p12, o12, none⟩ = some x12 ∧ a.cell? ⟨p13, o13, none⟩ = some x13) : b.cell? ⟨p0, o0, none⟩ = some x0 ∧ b.cell? ⟨p1, o1, none⟩ = some x1 ∧ b.cell? ⟨p2, o2, none⟩ = some x2 ∧ b.cell? ⟨p3, o3, none⟩ = some x3 ∧ b.cell? ⟨p4, o4, none⟩ = some x4 ∧ b.cell? ⟨p5, o5, none⟩ = some x5 ∧ b.cell? ⟨p6, o6, none⟩ = some x6 ∧ b.cell? ⟨p7, o7, none⟩ = some x7 ∧ b.cell? ⟨p8, o8, none⟩ = some x8 ∧ b.cell? ⟨p9, o9, none⟩ = some x9 ∧ b.cell? ⟨p10, o10, none⟩ = some x10 ∧ b.cell? ⟨p11, o11, none⟩ = some x11 ∧ b.cell? ⟨p12, o12, none⟩ = some x12 ∧ b.cell? ⟨p13, o13, none⟩ = some x13 :=
  ⟨fk1 h s.1, fk1 h s.2.1, fk1 h s.2.2.1, fk1 h s.2.2.2.1, fk1 h s.2.2.2.2.1, fk1 h s.2.2.2.2.2.1, fk1 h s.2.2.2.2.2.2.1, fk1 h s.2.2.2.2.2.2.2.1, fk1 h s.2.2.2.2.2.2.2.2.1, fk1 h s.2.2.2.2.2.2.2.2.2.1, fk1 h s.2.2.2.2.2.2.2.2.2.2.1, fk1 h s.2.2.2.2.2.2.2.2.2.2.2.1, fk1 h s.2.2.2.2.2.2.2.2.2.2.2.2.1, fk1 h s.2.2.2.2.2.2.2.2.2.2.2.2.2⟩
set_option maxRecDepth 20000 in
set_option maxHeartbeats 2000000 in
theorem fprefix_w (f : Fil) (w : World) :
    Calls Try.prog 15 #[valF f] w fun r w' => r = .returned (.int .i64 (fpre f)) ∧ Grew w w' := by
  obtain ⟨a, b, c, d, e, f, x⟩ := f
  simp only [valF]
  have i0 := Go.Proofs.Ytgfgfggoofjeeaa.ar0 a b c
  have i1 := ar1 a b c
  have i2 := ar2 a b c
  go_enter Try.func15, Try.ntmps15
  go_wp2
  go_loopw [12] (fun i wr => ∃ k : Nat, k ≤ 3 ∧ i = .int .i64 k ∧ (0 < k → a.toList.isEmpty = false) ∧ (1 < k → b.toList.isEmpty = false) ∧ (2 < k → c.toList.isEmpty = false) ∧ (w.alloc (.cells #[.string a, .string b, .string c, .string d, .string e, .string f, .bool x] 35)) = wr) (fun i _ => 3 - (intOf i).toNat)
  case atStart => exact ⟨0, by omega, rfl, fun h => absurd h (by omega), fun h => absurd h (by omega), fun h => absurd h (by omega), rfl⟩
  case round =>
    obtain ⟨k, hk, rfl, ha, hb, hc, rfl⟩ := hrel
    have HA := hid ha; clear ha
    have HB := hid hb; clear hb
    have HC := hid hc; clear hc
    have hw : Grew w (w.alloc (.cells #[.string a, .string b, .string c, .string d, .string e, .string f, .bool x] 35)) := gw_alloc gw_refl _
    rcases (show k = 0 ∨ k = 1 ∨ k = 2 ∨ k = 3 by omega) with rfl | rfl | rfl | rfl <;> clear hk
    · cases ea : a.toList.isEmpty
      · go_wp2
        go_roundw
        case rel => exact ⟨0+1, by omega, by go_num, fun _ => by first | trivial | exact ea | simp_all, fun h => absurd h (by omega), fun h => absurd h (by omega), by trivial⟩
        case measure => simp [intOf]
      · have HK := hid (fpre0 (f := ⟨a, b, c, d, e, f, x⟩)  ea)
        go_wp2
        go_ret
        exact ⟨ret_int HK.out.symm, hw⟩
    · cases eb : b.toList.isEmpty
      · go_wp2
        go_roundw
        case rel => exact ⟨1+1, by omega, by go_num, fun _ => HA.out (by omega), fun _ => by first | trivial | exact eb | simp_all, fun h => absurd h (by omega), by trivial⟩
        case measure => simp [intOf]
      · have HK := hid (fpre1 (f := ⟨a, b, c, d, e, f, x⟩) (HA.out (by omega)) eb)
        go_wp2
        go_ret
        exact ⟨ret_int HK.out.symm, hw⟩
    · cases ec : c.toList.isEmpty
      · go_wp2
        go_roundw
        case rel => exact ⟨2+1, by omega, by go_num, fun _ => HA.out (by omega), fun _ => HB.out (by omega), fun _ => by first | trivial | exact ec | simp_all, by trivial⟩
        case measure => simp [intOf]
      · have HK := hid (fpre2 (f := ⟨a, b, c, d, e, f, x⟩) (HA.out (by omega)) (HB.out (by omega)) ec)
        go_wp2
        go_ret
        exact ⟨ret_int HK.out.symm, hw⟩
    · cases x
      · have HK := hid (fpre3 (f := ⟨a, b, c, d, e, f, false⟩) (HA.out (by omega)) (HB.out (by omega)) (HC.out (by omega)) rfl)
        go_wp2
        go_ret
        exact ⟨ret_int HK.out.symm, hw⟩
      · have HK := hid (fpre4 (f := ⟨a, b, c, d, e, f, true⟩) (HA.out (by omega)) (HB.out (by omega)) (HC.out (by omega)) rfl)
        go_wp2
        go_ret
        exact ⟨ret_int HK.out.symm, hw⟩

theorem fprefix_q (f : Fil) (n : Int) (hv : fpre f = n) (w : World) (m : Nat) (os : Array Obj) :
    Calls Try.prog 15 #[.agg #[.string f.a, .string f.b, .string f.c, .string f.d, .string f.e, .string f.f, .bool f.x]] (grow (w.drewN m) os) fun e w'' => e = .returned (.int .i64 n) ∧ ∃ p : GrownBy, w'' = grow (w.drewN p.n) p.os :=
  Calls.grown_of ((fprefix_w f _).mono fun _ _ h => ⟨by rw [h.1, hv], h.2.out⟩)
theorem rprefix_q (f : Fil) (n : Int) (hv : fpre f = n) (w : World) (m : Nat) (os : Array Obj) :
    Calls Try.prog 16 #[.agg #[.string f.a, .string f.b, .string f.c, .string f.d, .string f.e, .string f.f, .bool f.x]] (grow (w.drewN m) os) fun e w'' => e = .returned (.int .i64 n) ∧ ∃ p : GrownBy, w'' = grow (w.drewN p.n) p.os :=
  Calls.grown_of ((rprefix_gw f.a f.b f.c f.d f.e f.f f.x n _ hv).mono fun _ _ h => ⟨h.1, h.2.out⟩)
end Go.Proofs.Ytgfgfggoofjeeaa.FB
namespace Go.Proofs.Ytgfgfggoofjeeaa
open Go.RowKit Go.Sort FB

attribute [local go_sem ↓] storeVar_fil
attribute [local go_sem] bf_new bf_new1 bf_newo
attribute [local go_sem] run_fil Big.old Big.put Big.drew
set_option maxRecDepth 100000 in
set_option maxHeartbeats 8000000 in
theorem ferr_walk (a b c d e f : ByteArray) (x : Bool) (A : Option Addr) (l : List Tup) (cl p q n : Nat) (w : World) (hF : FitF ⟨a, b, c, d, e, f, x⟩) (hR : Row w A l) (hl : ∀ t ∈ l, Fits t) (hc : l.length ≤ cl) (hA : (A = none ∧ cl = 0) ∨ ∃ b o, A = some ⟨b, o, none⟩) (hp : p < 256) (hq : q < 256) :
    Calls Try.prog 4 #[.agg #[.string a, .string b, .string c, .string d, .string e, .string f, .bool x], .slice A l.length cl, .agg #[.int .u8 p, .int .u8 q, .int .u8 n]] w fun r w' => r = .returned (.bool true) ∧ Below w.heap.size w w' := by
  have hmx := mixed
  have HF := hid hF; clear hF
  have HR := hid hR; clear hR
  have HL := hid hl; clear hl
  by_cases hlong : 20 < l.length
  · have hl2 : (20 : Int) < (l.length : Int) := by omega
    go_enter Try.func4, Try.ntmps4
    go_wp2_with fail
    refine (flives _).mono ?_
    rintro r w1 ⟨rfl, hw1⟩
    go_wp2
    go_ret
    exact ⟨rfl, g_trans (g_alloc (g_alloc g_refl _) _) hw1⟩
  · have hl2 : ¬ (20 : Int) < (l.length : Int) := by omega
    obtain ⟨g, hg⟩ : ∃ g, ofF p q n = g := ⟨_, rfl⟩
    have hgf : FitF g := by rw [← hg]; exact (ofF_small p q n).fit
    have hgc : fchk g = 0 := by rw [← hg]; exact ofF_chk p q n
    have HG := hid hg; clear hg
    have HGF := hid hgf; clear hgf
    obtain ⟨k, hk⟩ : ∃ k, fchk ⟨a, b, c, d, e, f, x⟩ = k := ⟨_, rfl⟩
    obtain ⟨⟨⟨ra, rb, rc, rd, re, rf, rx⟩, ru, rm⟩, hR1⟩ : ∃ R, bothR ⟨a, b, c, d, e, f, x⟩ g = R := ⟨_, rfl⟩
    obtain ⟨⟨⟨sa, sb, sc, sd, se, sf, sx⟩, su, sm⟩, hR2⟩ : ∃ R, bothR g ⟨a, b, c, d, e, f, x⟩ = R := ⟨_, rfl⟩
    obtain ⟨x1, -⟩ := (bothE_l hk hgc : bothE k (bothR ⟨a, b, c, d, e, f, x⟩ g))
    obtain ⟨x2, x3⟩ := (bothE_r hk hgc : bothE k (bothR g ⟨a, b, c, d, e, f, x⟩))
    rw [hR1] at x1
    rw [hR2] at x2 x3
    simp only at x1 x2
    obtain rfl := x1.symm
    obtain rfl := x2.symm
    have HX3 := hid x3; clear x3
    have HR1 := hid hR1; clear hR1
    have HR2 := hid hR2; clear hR2
    obtain ⟨m, fr, t2, hm, hz, hbd, hspan, hsel⟩ := err_calls ⟨a, b, c, d, e, f, x⟩ A l cl k HF.out hc hA (by omega) hk
    simp only [valF] at hspan hsel
    have HK := hid hk; clear hk
    have HM := hid hm; clear hm
    have HZ := hid hz; clear hz
    have HBD := hid hbd; clear hbd
    have HSP := hid hspan; clear hspan
    have HSL := hid hsel; clear hsel
    clear hgc hA hc
    obtain ⟨pf, hpf⟩ : ∃ z, fpre ⟨a, b, c, d, e, f, x⟩ = z := ⟨_, rfl⟩
    have HPF := hid hpf; clear hpf
    have hE0 : ES w ((w.alloc (.cells #[.string a, .string b, .string c, .string d, .string e, .string f, .bool x] 35)).alloc (.cells #[.int .u8 p, .int .u8 q, .int .u8 n] 27)) a b c d e f x p q n A l := ⟨⟨by go_simp, by go_simp, by go_simp, by go_simp, by go_simp, by go_simp, by go_simp, by go_simp, by go_simp, by go_simp⟩, HR.out.below (g_alloc (g_alloc g_refl _) _), g_alloc (g_alloc g_refl _) _⟩
    have HE := hid hE0; clear hE0
    have HLL := hid (show l.length ≤ 20 by omega)
    go_enter Try.func4, Try.ntmps4
    go_wp2_with fail
    generalize ((w.alloc (.cells #[.string a, .string b, .string c, .string d, .string e, .string f, .bool x] 35)).alloc (.cells #[.int .u8 p, .int .u8 q, .int .u8 n] 27)) = wa at *
    refine (rfcheck_v a b c d e f x k _ HF.out HK.out).mono ?_
    rintro r w1 ⟨rfl, hw1⟩
    have HE1 := hid (HE.out.below hw1)
    clear HE hw1 hlong
    go_upto_region 5 with fail
    go_cut [34] from 28 to 34 (fun u wx => ∃ z : Bool, u = .bool z ∧ ((z = true ∧ m = 18) ∨ (z = false ∧ m = k)) ∧ ES w wx a b c d e f x p q n A l)
    case first =>
      --[r5
      rcases HM.out with ⟨h0, hmk⟩ | ⟨hk0, hb, hmk⟩ | ⟨hk0, hb, hmk⟩
      · have h0' : (k == 0) = false := by simp [h0]
        have HMK := hid hmk
        clear h0 hmk
        go_wp2
        go_meet
        exact ⟨false, rfl, .inr ⟨rfl, HMK.out⟩, HE1.out⟩
      · subst hk0 hmk
        go_wp2_with fail
        refine (ris_v A l cl false _ HE1.out.row HL.out (by have := HLL.out; unfold maxLen; omega) hb).mono ?_
        rintro r w2 ⟨rfl, hw2⟩
        simp only [Bool.false_eq_true, if_false]
        go_wp2
        go_meet
        exact ⟨true, rfl, .inl ⟨rfl, by first | rfl | exact trivial⟩, HE1.out.below hw2.toBelow⟩
      · subst hk0 hmk
        go_wp2_with fail
        refine (ris_v A l cl true _ HE1.out.row HL.out (by have := HLL.out; unfold maxLen; omega) hb).mono ?_
        rintro r w2 ⟨rfl, hw2⟩
        simp only [if_true]
        go_wp2
        go_meet
        exact ⟨false, rfl, .inr ⟨rfl, by first | rfl | exact trivial⟩, HE1.out.below hw2.toBelow⟩
      --]r5
    case rest =>
      obtain ⟨z, rfl, hz, hE⟩ := hcut
      have HZZ := hid hz
      clear HE1 hz
      have HE := hid hE
      clear hE
      go_upto_if 34 with fail
      go_cut [8] (fun u wx => u = .int .i64 m ∧ wx = wc)
      case first =>
        --[if
        rcases HZZ.out with ⟨rfl, hm⟩ | ⟨rfl, hm⟩
        · have HMK := hid hm
          clear hm
          go_wp2
          go_meet
          exact ⟨by rw [HMK.out], rfl⟩
        · have HMK := hid hm
          clear hm
          go_wp2
          go_meet
          exact ⟨by rw [HMK.out], rfl⟩
        --]if
      case rest =>
        obtain ⟨rfl, rfl⟩ := hcut
        clear HZZ
        have hcc := HE.out.cells
        go_wp2_with fail
        refine (HSP.out _ HE.out.row).mono ?_
        rintro _ w2 ⟨rfl, hb⟩
        have HE2 := hid (HE.out.below hb)
        clear HE hb hcc
        have hcc := HE2.out.cells
        go_wp2_with fail
        refine (HSL.out _ HE2.out.row).mono ?_
        rintro _ w3 ⟨A3, s3, rfl, hs3, hs30, hb⟩
        have HE := hid (HE2.out.below hb)
        have HS3 := hid (And.intro hs3 hs30)
        clear HE2 hb hcc hs3 hs30 HSP HSL
        go_upto_region 9 with fail
        go_cut [16] from 48 to 55 (fun u wx => u = .int .i64 k ∧ ES w wx a b c d e f x p q n A l)
        case first => as_aux_lemma =>
          --[r9
          have hS : w3.drew.cell? ⟨w.heap.size, 0, none⟩ = some (.string a) ∧ w3.drew.cell? ⟨w.heap.size, 1, none⟩ = some (.string b) ∧ w3.drew.cell? ⟨w.heap.size, 2, none⟩ = some (.string c) ∧ w3.drew.cell? ⟨w.heap.size, 3, none⟩ = some (.string d) ∧ w3.drew.cell? ⟨w.heap.size, 4, none⟩ = some (.string e) ∧ w3.drew.cell? ⟨w.heap.size, 5, none⟩ = some (.string f) ∧ w3.drew.cell? ⟨w.heap.size, 6, none⟩ = some (.bool x) ∧ w3.drew.cell? ⟨w.heap.size + 1, 0, none⟩ = some (.int .u8 p) ∧ w3.drew.cell? ⟨w.heap.size + 1, 1, none⟩ = some (.int .u8 q) ∧ w3.drew.cell? ⟨w.heap.size + 1, 2, none⟩ = some (.int .u8 n) := er_keep (g_drew (g_refl (a := w3))) HE.out.cells
          have hO0 : w.heap.size < w3.heap.size := World.block_lt_of_cell? _ _ HE.out.cells.1
          have hO20 : w.heap.size + 1 < w3.heap.size := World.block_lt_of_cell? _ _ HE.out.cells.2.2.2.2.2.2.2.1
          have HOF := hid (fun W => (ofF_v p q n g W hp hq HG.out).mono fun _ _ h => And.intro h.1 h.2.toBelow)
          have HBO := hid (fun W => both_v ⟨a, b, c, d, e, f, x⟩ g ra rb rc rd re rf rx ru k W HF.out HGF.out HR1.out)
          clear HL HLL HS3 HPF HX3 HM HZ HBD HG HGF HR1 HR2 HF HK hmx hl2
          go_region_held3 (fun w' => w'.cell? ⟨w.heap.size, 0, none⟩ = some (.string a) ∧ w'.cell? ⟨w.heap.size, 1, none⟩ = some (.string b) ∧ w'.cell? ⟨w.heap.size, 2, none⟩ = some (.string c) ∧ w'.cell? ⟨w.heap.size, 3, none⟩ = some (.string d) ∧ w'.cell? ⟨w.heap.size, 4, none⟩ = some (.string e) ∧ w'.cell? ⟨w.heap.size, 5, none⟩ = some (.string f) ∧ w'.cell? ⟨w.heap.size, 6, none⟩ = some (.bool x) ∧ w'.cell? ⟨w.heap.size + 1, 0, none⟩ = some (.int .u8 p) ∧ w'.cell? ⟨w.heap.size + 1, 1, none⟩ = some (.int .u8 q) ∧ w'.cell? ⟨w.heap.size + 1, 2, none⟩ = some (.int .u8 n))
            (first | with_reducible assumption | (with_reducible refine kpp10 ?_ ?_ ?_ ?_ ?_ ?_ ?_ ?_ ?_ ?_ (by with_reducible assumption) <;> omega) | with_reducible exact kpn10 (g_alloc g_refl _) (by with_reducible assumption) | with_reducible exact kpn10 (by with_reducible assumption) (by with_reducible assumption))
            (first
            | (go_at_call 7; (with_reducible refine Calls.mono (HOF.out _) ?_); rintro _ y1 ⟨rfl, hc1⟩
               (try with_reducible (first | have hF := Big.below (bf_new _) hc1 | have hF := Big.below (Big.drew (bf_new _)) hc1))
               have hz1 := hc1.size; (try simp at hz1); have hz1' : w3.heap.size ≤ y1.heap.size := by omega)
            | (go_at_call 8; (with_reducible refine Calls.mono (HBO.out _) ?_); rintro _ y2 ⟨rfl, hc2⟩
               (try with_reducible (first | have hhF := Big.below hF hc2 | have hhF := Big.below (bf_new _) hc2))
               have hz2 := hc2.size; (try simp at hz2); have hz2' : y1.heap.size ≤ y2.heap.size := by omega))
          all_goals
            go_wp2_with fail
            go_meet
            refine ⟨rfl, HE.out.below (g_put ?_ ?_ _)⟩
            · repeat (first | with_reducible exact g_refl | with_reducible refine g_alloc ?_ _ | with_reducible refine g_drew ?_ | with_reducible refine g_trans ?_ hc2 | with_reducible refine g_trans ?_ hc1)
            · first | omega | (simp; omega)
          --]r9
        case rest =>
          obtain ⟨rfl, hE⟩ := hcut
          clear HE
          have HE := hid hE
          clear hE
          go_upto_region 10 with fail
          go_cut [17, 18, 19] from 56 to 63 (fun u v y wx => ∃ gp, u = .pointer (some ⟨gp, 0, none⟩) ∧ v = .bool su ∧ y = .int .i64 k ∧ Blk wx gp 35 #[.string sa, .string sb, .string sc, .string sd, .string se, .string sf, .bool sx] ∧ ES w wx a b c d e f x p q n A l)
          case first => as_aux_lemma =>
            --[r10
            have hS : wc.drew.cell? ⟨w.heap.size, 0, none⟩ = some (.string a) ∧ wc.drew.cell? ⟨w.heap.size, 1, none⟩ = some (.string b) ∧ wc.drew.cell? ⟨w.heap.size, 2, none⟩ = some (.string c) ∧ wc.drew.cell? ⟨w.heap.size, 3, none⟩ = some (.string d) ∧ wc.drew.cell? ⟨w.heap.size, 4, none⟩ = some (.string e) ∧ wc.drew.cell? ⟨w.heap.size, 5, none⟩ = some (.string f) ∧ wc.drew.cell? ⟨w.heap.size, 6, none⟩ = some (.bool x) ∧ wc.drew.cell? ⟨w.heap.size + 1, 0, none⟩ = some (.int .u8 p) ∧ wc.drew.cell? ⟨w.heap.size + 1, 1, none⟩ = some (.int .u8 q) ∧ wc.drew.cell? ⟨w.heap.size + 1, 2, none⟩ = some (.int .u8 n) := er_keep (g_drew (g_refl (a := wc))) HE.out.cells
            have hO0 : w.heap.size < wc.heap.size := World.block_lt_of_cell? _ _ HE.out.cells.1
            have hO20 : w.heap.size + 1 < wc.heap.size := World.block_lt_of_cell? _ _ HE.out.cells.2.2.2.2.2.2.2.1
            have HOF := hid (fun W => (ofF_v p q n g W hp hq HG.out).mono fun _ _ h => And.intro h.1 h.2.toBelow)
            have HBO := hid (fun W => both_v g ⟨a, b, c, d, e, f, x⟩ sa sb sc sd se sf sx su k W HGF.out HF.out HR2.out)
            clear HL HLL HS3 HPF HX3 HM HZ HBD HG HGF HR1 HR2 HF HK hmx hl2
            go_region_held3 (fun w' => w'.cell? ⟨w.heap.size, 0, none⟩ = some (.string a) ∧ w'.cell? ⟨w.heap.size, 1, none⟩ = some (.string b) ∧ w'.cell? ⟨w.heap.size, 2, none⟩ = some (.string c) ∧ w'.cell? ⟨w.heap.size, 3, none⟩ = some (.string d) ∧ w'.cell? ⟨w.heap.size, 4, none⟩ = some (.string e) ∧ w'.cell? ⟨w.heap.size, 5, none⟩ = some (.string f) ∧ w'.cell? ⟨w.heap.size, 6, none⟩ = some (.bool x) ∧ w'.cell? ⟨w.heap.size + 1, 0, none⟩ = some (.int .u8 p) ∧ w'.cell? ⟨w.heap.size + 1, 1, none⟩ = some (.int .u8 q) ∧ w'.cell? ⟨w.heap.size + 1, 2, none⟩ = some (.int .u8 n))
              (first | with_reducible assumption | (with_reducible refine kpp10 ?_ ?_ ?_ ?_ ?_ ?_ ?_ ?_ ?_ ?_ (by with_reducible assumption) <;> omega) | with_reducible exact kpn10 (g_alloc g_refl _) (by with_reducible assumption) | with_reducible exact kpn10 (by with_reducible assumption) (by with_reducible assumption))
              (first
              | (go_at_call 7; (with_reducible refine Calls.mono (HOF.out _) ?_); rintro _ y1 ⟨rfl, hc1⟩
                 (try with_reducible (first | have hF := Big.below (bf_new _) hc1 | have hF := Big.below (Big.drew (bf_new _)) hc1))
                 have hz1 := hc1.size; (try simp at hz1); have hz1' : wc.heap.size ≤ y1.heap.size := by omega)
              | (go_at_call 8; (with_reducible refine Calls.mono (HBO.out _) ?_); rintro _ y2 ⟨rfl, hc2⟩
                 (try with_reducible (first | have hhF := Big.below hF hc2 | have hhF := Big.below (bf_new _) hc2))
                 have hz2 := hc2.size; (try simp at hz2); have hz2' : y1.heap.size ≤ y2.heap.size := by omega))
            all_goals
              go_wp2_with fail
              go_meet
              refine ⟨_, rfl, rfl, rfl, Big.same (n := 7) ?hB _ rfl, HE.out.below (g_put ?hX ?hg _)⟩
              case hX => repeat (first | with_reducible exact g_refl | with_reducible refine g_alloc ?_ _ | with_reducible refine g_drew ?_ | with_reducible refine g_trans ?_ hc2 | with_reducible refine g_trans ?_ hc1)
              case hB => repeat (first | (with_reducible assumption) | with_reducible exact bf_new _ | with_reducible exact bf_new1 _ _ | with_reducible exact bf_newo _ _ | with_reducible refine Big.old ?_ _)
              case hg => first | omega | (simp; omega)
            --]r10
          case rest =>
            obtain ⟨gp, rfl, rfl, rfl, hgp, hE⟩ := hcut
            clear HE
            have HE := hid hE
            have HGP := hid hgp
            clear hE hgp
            go_upto_region 11 with fail
            go_cut [113] (fun u wx => u = .bool false ∧ ES w wx a b c d e f x p q n A l)
            case first => as_aux_lemma =>
              --[r11
              obtain ⟨e0, e1, e2, e3, e4, e5, e6⟩ := (Go.Proofs.Ytgfgfggoofjeeaa.FB.grown (f := ⟨a, b, c, d, e, f, x⟩) (b := w.heap.size) (w := wc) (by obtain ⟨e0, e1, e2, e3, e4, e5, e6, -⟩ := HE.out.cells; exact ⟨e0, e1, e2, e3, e4, e5, e6, World.block_lt_of_cell? _ _ e0⟩))
              obtain ⟨r0, r1, r2, r3, r4, r5, r6⟩ := (Go.Proofs.Ytgfgfggoofjeeaa.FB.grown (f := ⟨sa, sb, sc, sd, se, sf, sx⟩) (b := gp) (w := wc) (by have cc := fun j => box_cell HGP.out j; exact ⟨(cc 0).trans rfl, (cc 1).trans rfl, (cc 2).trans rfl, (cc 3).trans rfl, (cc 4).trans rfl, (cc 5).trans rfl, (cc 6).trans rfl, Blk.lt HGP.out⟩))
              have q1 := fun m os => fprefix_q ⟨a, b, c, d, e, f, x⟩ pf HPF.out wc m os
              have q2 := fun m os => rprefix_q ⟨a, b, c, d, e, f, x⟩ pf HPF.out wc m os
              simp only at q1 q2 e0 e1 e2 e3 e4 e5 e6 r0 r1 r2 r3 r4 r5 r6
              by_cases hm0 : m = 0
              · have hk0 : k = 0 := by
                  rcases HM.out with ⟨h0, hmk⟩ | ⟨h0, -, hmk⟩ | ⟨h0, -, hmk⟩ <;> omega
                have k1 : (k != 0) = false := by simp [hk0]
                have k2 : (k == 0) = true := by simp [hk0]
                have k3 : decide (k = 0) = true := by simp [hk0]
                have m1 : (m != 0) = false := by simp [hm0]
                have m2 : (m == 0) = true := by simp [hm0]
                have m3 : decide (m = 0) = true := by simp [hm0]
                clear hm0 hk0 HM HZ HBD HX3 HR1 HR2 HK HL HG HGF HF HGP HPF hl2 HLL HS3
                refine wp_region_quiet_grown (by assumption) (by kernel_rfl) ?_
                iterate 22 (quiet_step (fail))
                iterate 7 ((with_reducible refine BigFrame.wpQuiet_skip ?_ ?_); (focus kernel_rfl); simp only [Act.put, List.setIfInBounds_toArray, List.set_cons_zero, List.set_cons_succ])
                iterate 6 (quiet_step (fail))
                iterate 6 ((with_reducible refine BigFrame.wpQuiet_skip ?_ ?_); (focus kernel_rfl); simp only [Act.put, List.setIfInBounds_toArray, List.set_cons_zero, List.set_cons_succ])
                repeat (quiet_step (first | (go_at_call 15; exact q1 _ _) | (go_at_call 16; exact q2 _ _)))
                refine wpQuiet_nil ?_
                rintro _ ⟨⟨nq, osq⟩, rfl⟩
                go_wp2_with fail
                go_meet
                exact ⟨rfl, HE.out.below (gw_grow (gw_drewN gw_refl _) _).toBelow⟩
              · have m1 : (m != 0) = true := by simp [hm0]
                have m2 : (m == 0) = false := by simp [hm0]
                have m3 : decide (m = 0) = false := by simp [hm0]
                obtain ⟨rfl, rfl⟩ := HZ.out hm0
                have hs0 := HS3.out.2 hm0
                subst hs0
                by_cases hk0 : k = 0
                · have k1 : (k != 0) = false := by simp [hk0]
                  have k2 : (k == 0) = true := by simp [hk0]
                  have k3 : decide (k = 0) = true := by simp [hk0]
                  clear hm0 hk0 HM HZ HBD HX3 HR1 HR2 HK HL HG HGF HF HGP HPF hl2 HLL HS3
                  refine wp_region_quiet_grown (by assumption) (by kernel_rfl) ?_
                  iterate 35 (quiet_step (fail))
                  iterate 6 ((with_reducible refine BigFrame.wpQuiet_skip ?_ ?_); (focus kernel_rfl); simp only [Act.put, List.setIfInBounds_toArray, List.set_cons_zero, List.set_cons_succ])
                  repeat (quiet_step (first | (go_at_call 15; exact q1 _ _) | (go_at_call 16; exact q2 _ _)))
                  refine wpQuiet_nil ?_
                  rintro _ ⟨⟨nq, osq⟩, rfl⟩
                  go_wp2_with fail
                  go_meet
                  exact ⟨rfl, HE.out.below (gw_grow (gw_drewN gw_refl _) _).toBelow⟩
                · have k1 : (k != 0) = true := by simp [hk0]
                  have k2 : (k == 0) = false := by simp [hk0]
                  have k3 : decide (k = 0) = false := by simp [hk0]
                  have h3 := HX3.out hk0
                  simp only [zF, Prod.mk.injEq, Fil.mk.injEq, and_true] at h3
                  obtain ⟨⟨rfl, rfl, rfl, rfl, rfl, rfl, rfl⟩, rfl⟩ := h3
                  have hnz : ∀ W, (Go.binOp BinOp.neq 35 (.agg #[.string ⟨#[]⟩, .string ⟨#[]⟩, .string ⟨#[]⟩, .string ⟨#[]⟩, .string ⟨#[]⟩, .string ⟨#[]⟩, .bool false]) (.agg #[.string ⟨#[]⟩, .string ⟨#[]⟩, .string ⟨#[]⟩, .string ⟨#[]⟩, .string ⟨#[]⟩, .string ⟨#[]⟩, .bool false])).run Try.prog W = .ok (.bool false) W := fun W => by kernel_rfl
                  clear hm0 hk0 HM HZ HBD HX3 HR1 HR2 HK HL HG HGF HF HGP HPF hl2 HLL HS3
                  refine wp_region_quiet_grown (by assumption) (by kernel_rfl) ?_
                  repeat (quiet_step (first | (go_at_call 15; exact q1 _ _) | (go_at_call 16; exact q2 _ _)))
                  refine wpQuiet_nil ?_
                  rintro _ ⟨⟨nq, osq⟩, rfl⟩
                  go_wp2_with fail
                  go_meet
                  exact ⟨rfl, HE.out.below (gw_grow (gw_drewN gw_refl _) _).toBelow⟩
              --]r11
            case rest =>
              --[r13
              obtain ⟨rfl, hE⟩ := hcut
              clear HE HGP
              have HE := hid hE
              clear hE
              go_wp2
              go_loopw [20] (fun i wr => ∃ j : Nat, j ≤ l.length ∧ i = .int .i64 j ∧ ES w wr a b c d e f x p q n A l) (fun i _ => l.length - (intOf i).toNat)
              case atStart => exact ⟨0, Nat.zero_le _, rfl, HE.out⟩
              case round =>
                clear HE
                obtain ⟨j, hj, rfl, hE⟩ := hrel
                have HE := hid hE
                clear hE
                by_cases hlt : j < l.length
                · have i1 : (j : Int) < (l.length : Int) := by omega
                  have i2 : (0 : Int) ≤ (j : Int) := by omega
                  obtain ⟨bb, o, rfl, hL⟩ := HE.out.row.at_ hlt
                  obtain ⟨x0, x1, x2, x3, x4, x5⟩ := hL.six hlt
                  generalize l[j] = t at *
                  obtain ⟨z, hz⟩ : ∃ z, takes ⟨a, b, c, d, e, f, x⟩ t = z := ⟨_, rfl⟩
                  obtain ⟨v, hv⟩ : ∃ v, takesI ⟨a, b, c, d, e, f, x⟩ t = v := ⟨_, rfl⟩
                  have hve : (v == 1) = z := by rw [← hv, ← hz]; unfold takesI; cases takes ⟨a, b, c, d, e, f, x⟩ t <;> rfl
                  obtain ⟨e0, e1, e2, e3, e4, e5, e6⟩ := (Go.Proofs.Ytgfgfggoofjeeaa.FB.grown (f := ⟨a, b, c, d, e, f, x⟩) (b := w.heap.size) (w := wr) (by obtain ⟨e0, e1, e2, e3, e4, e5, e6, -⟩ := HE.out.cells; exact ⟨e0, e1, e2, e3, e4, e5, e6, World.block_lt_of_cell? _ _ e0⟩))
                  have q1 := fun m os => ftakes_qa ⟨a, b, c, d, e, f, x⟩ t z hz wr m os
                  have q2 := fun m os => rtakes_qa ⟨a, b, c, d, e, f, x⟩ t v hv wr m os
                  simp only at q1 q2
                  clear hz hv hL
                  go_wp2_with fail
                  go_quiet_grown (first | (go_at_call 17; exact q1 _ _) | (go_at_call 10; exact q2 _ _))
                  go_wp2
                  go_roundw
                  case rel => exact ⟨j + 1, by omega, by go_num, HE.out.below (gw_grow (gw_drewN gw_refl _) _).toBelow⟩
                  case measure => simp [intOf]; omega
                · have i1 : ¬ (j : Int) < (l.length : Int) := by omega
                  go_wp2_with fail
                  refine (flives _).mono ?_
                  rintro r w1 ⟨rfl, hw1⟩
                  go_wp2
                  go_ret
                  exact ⟨rfl, g_trans HE.out.bel hw1⟩
              --]r13
end Go.Proofs.Ytgfgfggoofjeeaa
namespace Go.Proofs.Ytgfgfggoofjeeaa.filtersErrors
open Go.ChangeShapes Go.WideShapes Go.ChangeAt Go.RowKit

theorem own : ownKnob Try.prog.godebug = none := by kernel_rfl
theorem cE : Try.prog.cellsOf 25 = 2 := by kernel_rfl
theorem cB : Try.prog.cellsOf 5 = 1 := by kernel_rfl
theorem cF : Try.prog.cellsOf 27 = 3 := by kernel_rfl
theorem cZ : Try.prog.cellsOf 35 = 7 := by kernel_rfl
theorem cO : Try.prog.cellsOf 4 = 1 := by kernel_rfl
theorem laid : laidOutB Try.prog = true := by kernel_rfl

theorem okw_slice {P : Program} {w : World} {r : Reach} {b0 : Nat} {z t : TypeId} {A : Option Addr} {n c : Nat} (hz : P.underlying z = some (.slice t)) (hv : Value.okWide P w r b0 z (.slice A n c)) : (A = none ∧ c = 0) ∨ ∃ b o, A = some ⟨b, o, none⟩ := by
  simp only [Value.okWide, hz, Cell.okWide, Cell.ok] at hv
  cases A with
  | none =>
    refine .inl ⟨rfl, ?_⟩
    cases n with
    | zero =>
      cases c with
      | zero => rfl
      | succ c => exact hv.elim
    | succ n => exact hv.elim
  | some a =>
    obtain ⟨-, -, -, hs, -⟩ := hv
    obtain ⟨b, o, s⟩ := a
    exact .inr ⟨b, o, by simp only at hs; rw [hs]⟩
set_option maxRecDepth 100000 in
theorem lifted (os : Os) (started : os.Started) (H : Type) (enc : TypeId × Value → H) :
    ReturnsInHanded {} Try.checked os 4 .any (Rows.filtersErrorsSpec.pre6 enc Try.prog Try.f4 Rows.filtersErrorsRow.domain false) (Rows.filtersErrorsSpec.post enc Try.prog Try.f4 false true false false) := by
  refine returnsInHanded_of_change (C := Try.checked) own started (by kernel_rfl) Try.func4
    (ChangeSpec.witness6 (enc := enc) (C := Try.checked) false ⟨#[], #[.agg #[.string ⟨#[]⟩, .string ⟨#[]⟩, .string ⟨#[]⟩, .string ⟨#[]⟩, .string ⟨#[]⟩, .string ⟨#[]⟩, .bool false], .slice none 0 0, .agg #[.int .u8 0, .int .u8 0, .int .u8 0]], []⟩ 8 (by kernel_rfl) (by kernel_rfl) (by kernel_rfl) (by kernel_rfl)) ?_
  intro W base args ds gs before hval0 hW hcnd _
  have hval : ∀ (j : Nat) t v, Try.f4.params[j]? = some t → args[j]? = some v → Value.okWide Try.prog W .any base t v := hval0
  have hW' := hW
  obtain ⟨p, q, hA0, hV, rfl, hfz, hnd⟩ := hW
  have hA : DataW.TrodAll enc Try.prog W 0 (fun _ => true) true Try.f4.params.toList args.toList ds p := hA0
  rw [Try.params4] at hA hval
  obtain ⟨v0, vs0, d0, ds0, p0, q0, hargs, rfl, rfl, h0, r0⟩ := trodAll_cons hA
  obtain ⟨v1, vs1, d1, ds1, p1, q1, rfl, rfl, rfl, h1, r1⟩ := trodAll_cons r0
  obtain ⟨v2, vs2, d2, ds2, p2, q2, rfl, rfl, rfl, h2, r2⟩ := trodAll_cons r1
  obtain ⟨rfl, rfl, rfl⟩ := trodAll_nil r2
  obtain rfl : args = #[v0, v1, v2] := by cases args; simp_all
  obtain ⟨rfl, rfl⟩ := trodVars_none hV
  have k0 := h0
  have k1 := h1
  have k2 := h2
  obtain ⟨m0, m1, g0, g1, l0, l1, f0, f1, TT⟩ := tupTypes
  obtain ⟨y0, y1, y2, y3, y4, hy, t0, t1, t2, t3, t4⟩ := filTypes
  obtain ⟨⟨a, b, c, d, e, f, x⟩, rfl, hF⟩ := TT.filter hy t0 t1 t2 t3 t4 cZ cO Try.underlying4 (hval 0 35 v0 rfl rfl) h0
  obtain ⟨A, l, cl, rfl, hcl, -, hR, hG⟩ := TT.slice Try.underlying28 (hval 1 28 v1 rfl rfl) h1
  have hAl := okw_slice Try.underlying28 (hval 1 28 _ rfl rfl)
  obtain ⟨p', q', n', rfl, hp', hq', -⟩ := open_F Try.underlying27 rfl rfl rfl rfl cF Try.underlying25 cE cB Try.underlying5 (hval 2 27 v2 rfl rfl) h2
  have hlt0 : ∀ x ∈ p0, x.block < W.heap.size := fun x hx => by simpa using hW'.lt x (by simp [hx])
  have hlt1 : ∀ x ∈ p1, x.block < W.heap.size := fun x hx => by simpa using hW'.lt x (by simp [hx])
  have hlt2 : ∀ x ∈ p2, x.block < W.heap.size := fun x hx => by simpa using hW'.lt x (by simp [hx])
  clear hA0 hval0
  refine (ferr_walk a b c d e f x A l cl p' q' n' W hF hR hG hcl hAl hp' hq').mono fun r W' ⟨he, hg⟩ => ?_
  subst he
  exact ⟨_, rfl, _, _, _, [], _, [], hW', trodAll_cons_mk (shut_bool Try.underlying4 _) trodAll_mk0,
    trodAll_cons_mk (Below.trod laid (by kernel_rfl) (of_decide_eq_true (by kernel_rfl)) k0 hg hlt0) (trodAll_cons_mk (Below.trod laid (by kernel_rfl) (of_decide_eq_true (by kernel_rfl)) k1 hg hlt1) (trodAll_cons_mk (Below.trod laid (by kernel_rfl) (of_decide_eq_true (by kernel_rfl)) k2 hg hlt2) trodAll_mk0)), rfl, hg.frame _, fun h => by cases h⟩

theorem over : Rows.filtersErrorsRow.holds Try.pinned (OpenSpec.ofChange Rows.filtersErrorsSpec) :=
  OpenClaim.holds_of_wide 4 Try.f4 rfl rfl rfl rfl rfl rfl rfl ⟨rfl, rfl, rfl, rfl, rfl⟩ rfl rfl rfl rfl rfl (by kernel_rfl) Try.func4 (by kernel_rfl)
    (of_decide_eq_true (by kernel_rfl)) (by unfold Func.isWrapper; first | (rw [if_pos (by decide +kernel)]; kernel_rfl) | (rw [if_neg (by decide +kernel)]; exact ⟨rfl, rfl⟩))
    (fun os started H enc _ => lifted os started H enc)

theorem proved : Rows.FiltersErrorsSaid := over
end Go.Proofs.Ytgfgfggoofjeeaa.filtersErrors
