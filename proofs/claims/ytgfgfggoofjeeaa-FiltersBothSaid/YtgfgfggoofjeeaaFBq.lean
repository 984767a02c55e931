/-
  FiltersErrors returns true: the walk.
  BLOCKS that a region makes, and stores into: a filter is stored by one law, and the world behind it stands under a name of its own.
  PLAIN FACTS on the filter of both: what it takes, that it is valid, and that of one filter with itself.
-/
import Derived.Test.YtgfgfggoofjeeaaFFac
import Derived.Deep.CutRange
import Derived.Deep.DeepCutAuto
import Derived.Deep.RegionWith
import Derived.Deep.MidRow
import Derived.Test.YtgfgfggoofjeeaaFBoth
namespace Go.Proofs.Ytgfgfggoofjeeaa
open Go.RowKit Go.Sort

theorem er_keep {o o2 : Nat} {a b c d e f : ByteArray} {x : Bool} {p q n : Nat} {W W' : World} (hb : Below W.heap.size W W') (h : W.cell? ⟨o, 0, none⟩ = some (.string a) ∧ W.cell? ⟨o, 1, none⟩ = some (.string b) ∧ W.cell? ⟨o, 2, none⟩ = some (.string c) ∧ W.cell? ⟨o, 3, none⟩ = some (.string d) ∧ W.cell? ⟨o, 4, none⟩ = some (.string e) ∧ W.cell? ⟨o, 5, none⟩ = some (.string f) ∧ W.cell? ⟨o, 6, none⟩ = some (.bool x) ∧ W.cell? ⟨o2, 0, none⟩ = some (.int .u8 p) ∧ W.cell? ⟨o2, 1, none⟩ = some (.int .u8 q) ∧ W.cell? ⟨o2, 2, none⟩ = some (.int .u8 n)) : W'.cell? ⟨o, 0, none⟩ = some (.string a) ∧ W'.cell? ⟨o, 1, none⟩ = some (.string b) ∧ W'.cell? ⟨o, 2, none⟩ = some (.string c) ∧ W'.cell? ⟨o, 3, none⟩ = some (.string d) ∧ W'.cell? ⟨o, 4, none⟩ = some (.string e) ∧ W'.cell? ⟨o, 5, none⟩ = some (.string f) ∧ W'.cell? ⟨o, 6, none⟩ = some (.bool x) ∧ W'.cell? ⟨o2, 0, none⟩ = some (.int .u8 p) ∧ W'.cell? ⟨o2, 1, none⟩ = some (.int .u8 q) ∧ W'.cell? ⟨o2, 2, none⟩ = some (.int .u8 n) := by
  obtain ⟨h0, h1, h2, h3, h4, h5, h6, k0, k1, k2⟩ := h
  have r := fun i v (h : W.cell? ⟨o, i, none⟩ = some v) => (own_cells hb o (World.block_lt_of_cell? _ _ h) i).1.trans h
  have t := fun i v (h : W.cell? ⟨o2, i, none⟩ = some v) => (own_cells hb o2 (World.block_lt_of_cell? _ _ h) i).1.trans h
  exact ⟨r _ _ h0, r _ _ h1, r _ _ h2, r _ _ h3, r _ _ h4, r _ _ h5, r _ _ h6, t _ _ k0, t _ _ k1, t _ _ k2⟩
theorem er_low {o o2 : Nat} {a b c d e f : ByteArray} {x : Bool} {p q n : Nat} {W W' : World} {B : Nat} (hb : Below B W W') (ho : o < B) (ho2 : o2 < B) (h : W.cell? ⟨o, 0, none⟩ = some (.string a) ∧ W.cell? ⟨o, 1, none⟩ = some (.string b) ∧ W.cell? ⟨o, 2, none⟩ = some (.string c) ∧ W.cell? ⟨o, 3, none⟩ = some (.string d) ∧ W.cell? ⟨o, 4, none⟩ = some (.string e) ∧ W.cell? ⟨o, 5, none⟩ = some (.string f) ∧ W.cell? ⟨o, 6, none⟩ = some (.bool x) ∧ W.cell? ⟨o2, 0, none⟩ = some (.int .u8 p) ∧ W.cell? ⟨o2, 1, none⟩ = some (.int .u8 q) ∧ W.cell? ⟨o2, 2, none⟩ = some (.int .u8 n)) : W'.cell? ⟨o, 0, none⟩ = some (.string a) ∧ W'.cell? ⟨o, 1, none⟩ = some (.string b) ∧ W'.cell? ⟨o, 2, none⟩ = some (.string c) ∧ W'.cell? ⟨o, 3, none⟩ = some (.string d) ∧ W'.cell? ⟨o, 4, none⟩ = some (.string e) ∧ W'.cell? ⟨o, 5, none⟩ = some (.string f) ∧ W'.cell? ⟨o, 6, none⟩ = some (.bool x) ∧ W'.cell? ⟨o2, 0, none⟩ = some (.int .u8 p) ∧ W'.cell? ⟨o2, 1, none⟩ = some (.int .u8 q) ∧ W'.cell? ⟨o2, 2, none⟩ = some (.int .u8 n) := by
  obtain ⟨h0, h1, h2, h3, h4, h5, h6, k0, k1, k2⟩ := h
  have r := fun i v (h : W.cell? ⟨o, i, none⟩ = some v) => (hb.cell (p := ⟨o, i, none⟩) ho).trans h
  have t := fun i v (h : W.cell? ⟨o2, i, none⟩ = some v) => (hb.cell (p := ⟨o2, i, none⟩) ho2).trans h
  exact ⟨r _ _ h0, r _ _ h1, r _ _ h2, r _ _ h3, r _ _ h4, r _ _ h5, r _ _ h6, t _ _ k0, t _ _ k1, t _ _ k2⟩
/-- a fresh block is written -/
theorem er_set7 {o o2 : Nat} {a b c d e f : ByteArray} {x : Bool} {p q n : Nat} {W : World} {g : Nat} {u0 u1 u2 u3 u4 u5 u6 : Value} (ho : o < g) (ho2 : o2 < g) (h : W.cell? ⟨o, 0, none⟩ = some (.string a) ∧ W.cell? ⟨o, 1, none⟩ = some (.string b) ∧ W.cell? ⟨o, 2, none⟩ = some (.string c) ∧ W.cell? ⟨o, 3, none⟩ = some (.string d) ∧ W.cell? ⟨o, 4, none⟩ = some (.string e) ∧ W.cell? ⟨o, 5, none⟩ = some (.string f) ∧ W.cell? ⟨o, 6, none⟩ = some (.bool x) ∧ W.cell? ⟨o2, 0, none⟩ = some (.int .u8 p) ∧ W.cell? ⟨o2, 1, none⟩ = some (.int .u8 q) ∧ W.cell? ⟨o2, 2, none⟩ = some (.int .u8 n)) : ((((((((W).setCell ⟨g, 0, none⟩ u0).setCell ⟨g, 1, none⟩ u1).setCell ⟨g, 2, none⟩ u2).setCell ⟨g, 3, none⟩ u3).setCell ⟨g, 4, none⟩ u4).setCell ⟨g, 5, none⟩ u5).setCell ⟨g, 6, none⟩ u6).cell? ⟨o, 0, none⟩ = some (.string a) ∧ ((((((((W).setCell ⟨g, 0, none⟩ u0).setCell ⟨g, 1, none⟩ u1).setCell ⟨g, 2, none⟩ u2).setCell ⟨g, 3, none⟩ u3).setCell ⟨g, 4, none⟩ u4).setCell ⟨g, 5, none⟩ u5).setCell ⟨g, 6, none⟩ u6).cell? ⟨o, 1, none⟩ = some (.string b) ∧ ((((((((W).setCell ⟨g, 0, none⟩ u0).setCell ⟨g, 1, none⟩ u1).setCell ⟨g, 2, none⟩ u2).setCell ⟨g, 3, none⟩ u3).setCell ⟨g, 4, none⟩ u4).setCell ⟨g, 5, none⟩ u5).setCell ⟨g, 6, none⟩ u6).cell? ⟨o, 2, none⟩ = some (.string c) ∧ ((((((((W).setCell ⟨g, 0, none⟩ u0).setCell ⟨g, 1, none⟩ u1).setCell ⟨g, 2, none⟩ u2).setCell ⟨g, 3, none⟩ u3).setCell ⟨g, 4, none⟩ u4).setCell ⟨g, 5, none⟩ u5).setCell ⟨g, 6, none⟩ u6).cell? ⟨o, 3, none⟩ = some (.string d) ∧ ((((((((W).setCell ⟨g, 0, none⟩ u0).setCell ⟨g, 1, none⟩ u1).setCell ⟨g, 2, none⟩ u2).setCell ⟨g, 3, none⟩ u3).setCell ⟨g, 4, none⟩ u4).setCell ⟨g, 5, none⟩ u5).setCell ⟨g, 6, none⟩ u6).cell? ⟨o, 4, none⟩ = some (.string e) ∧ ((((((((W).setCell ⟨g, 0, none⟩ u0).setCell ⟨g, 1, none⟩ u1).setCell ⟨g, 2, none⟩ u2).setCell ⟨g, 3, none⟩ u3).setCell ⟨g, 4, none⟩ u4).setCell ⟨g, 5, none⟩ u5).setCell ⟨g, 6, none⟩ u6).cell? ⟨o, 5, none⟩ = some (.string f) ∧ ((((((((W).setCell ⟨g, 0, none⟩ u0).setCell ⟨g, 1, none⟩ u1).setCell ⟨g, 2, none⟩ u2).setCell ⟨g, 3, none⟩ u3).setCell ⟨g, 4, none⟩ u4).setCell ⟨g, 5, none⟩ u5).setCell ⟨g, 6, none⟩ u6).cell? ⟨o, 6, none⟩ = some (.bool x) ∧ ((((((((W).setCell ⟨g, 0, none⟩ u0).setCell ⟨g, 1, none⟩ u1).setCell ⟨g, 2, none⟩ u2).setCell ⟨g, 3, none⟩ u3).setCell ⟨g, 4, none⟩ u4).setCell ⟨g, 5, none⟩ u5).setCell ⟨g, 6, none⟩ u6).cell? ⟨o2, 0, none⟩ = some (.int .u8 p) ∧ ((((((((W).setCell ⟨g, 0, none⟩ u0).setCell ⟨g, 1, none⟩ u1).setCell ⟨g, 2, none⟩ u2).setCell ⟨g, 3, none⟩ u3).setCell ⟨g, 4, none⟩ u4).setCell ⟨g, 5, none⟩ u5).setCell ⟨g, 6, none⟩ u6).cell? ⟨o2, 1, none⟩ = some (.int .u8 q) ∧ ((((((((W).setCell ⟨g, 0, none⟩ u0).setCell ⟨g, 1, none⟩ u1).setCell ⟨g, 2, none⟩ u2).setCell ⟨g, 3, none⟩ u3).setCell ⟨g, 4, none⟩ u4).setCell ⟨g, 5, none⟩ u5).setCell ⟨g, 6, none⟩ u6).cell? ⟨o2, 2, none⟩ = some (.int .u8 n) :=
  er_low (B := max o o2 + 1) (((((((Below.refl _ W).setCell (p := ⟨g, 0, none⟩) (by show _ ≤ g; omega) u0).setCell (p := ⟨g, 1, none⟩) (by show _ ≤ g; omega) u1).setCell (p := ⟨g, 2, none⟩) (by show _ ≤ g; omega) u2).setCell (p := ⟨g, 3, none⟩) (by show _ ≤ g; omega) u3).setCell (p := ⟨g, 4, none⟩) (by show _ ≤ g; omega) u4).setCell (p := ⟨g, 5, none⟩) (by show _ ≤ g; omega) u5 |>.setCell (p := ⟨g, 6, none⟩) (by show _ ≤ g; omega) u6) (by omega) (by omega) h
/-- another block is made in its place -/
theorem er_all {o o2 : Nat} {a b c d e f : ByteArray} {x : Bool} {p q n : Nat} {W : World} {k k' : Obj} (ho : o < W.heap.size) (ho2 : o2 < W.heap.size) (h : (W.alloc k).cell? ⟨o, 0, none⟩ = some (.string a) ∧ (W.alloc k).cell? ⟨o, 1, none⟩ = some (.string b) ∧ (W.alloc k).cell? ⟨o, 2, none⟩ = some (.string c) ∧ (W.alloc k).cell? ⟨o, 3, none⟩ = some (.string d) ∧ (W.alloc k).cell? ⟨o, 4, none⟩ = some (.string e) ∧ (W.alloc k).cell? ⟨o, 5, none⟩ = some (.string f) ∧ (W.alloc k).cell? ⟨o, 6, none⟩ = some (.bool x) ∧ (W.alloc k).cell? ⟨o2, 0, none⟩ = some (.int .u8 p) ∧ (W.alloc k).cell? ⟨o2, 1, none⟩ = some (.int .u8 q) ∧ (W.alloc k).cell? ⟨o2, 2, none⟩ = some (.int .u8 n)) : (W.alloc k').cell? ⟨o, 0, none⟩ = some (.string a) ∧ (W.alloc k').cell? ⟨o, 1, none⟩ = some (.string b) ∧ (W.alloc k').cell? ⟨o, 2, none⟩ = some (.string c) ∧ (W.alloc k').cell? ⟨o, 3, none⟩ = some (.string d) ∧ (W.alloc k').cell? ⟨o, 4, none⟩ = some (.string e) ∧ (W.alloc k').cell? ⟨o, 5, none⟩ = some (.string f) ∧ (W.alloc k').cell? ⟨o, 6, none⟩ = some (.bool x) ∧ (W.alloc k').cell? ⟨o2, 0, none⟩ = some (.int .u8 p) ∧ (W.alloc k').cell? ⟨o2, 1, none⟩ = some (.int .u8 q) ∧ (W.alloc k').cell? ⟨o2, 2, none⟩ = some (.int .u8 n) := by
  have r := bcell (g_alloc (g_refl (a := W)) k)
  have t := bcell (g_alloc (g_refl (a := W)) k')
  obtain ⟨h0, h1, h2, h3, h4, h5, h6, k0, k1, k2⟩ := h
  have z := fun i v (h : (W.alloc k).cell? ⟨o, i, none⟩ = some v) => (t.1 o i ho).trans ((r.1 o i ho).symm.trans h)
  have z2 := fun i v (h : (W.alloc k).cell? ⟨o2, i, none⟩ = some v) => (t.1 o2 i ho2).trans ((r.1 o2 i ho2).symm.trans h)
  exact ⟨z _ _ h0, z _ _ h1, z _ _ h2, z _ _ h3, z _ _ h4, z _ _ h5, z _ _ h6, z2 _ _ k0, z2 _ _ k1, z2 _ _ k2⟩
/-- a block with a filter -/
def FH (W : World) (g : Nat) (vs : Array Value) : Prop := vs.size = 7 ∧ W.heap[g]? = some (.cells vs 35 (0, 0))
theorem FH.lt {W : World} {g : Nat} {vs : Array Value} (h : FH W g vs) : g < W.heap.size := (Array.getElem?_eq_some_iff.1 h.2).1
theorem FH.below {W W' : World} {g : Nat} {vs : Array Value} (h : FH W g vs) (hb : Below W.heap.size W W') : FH W' g vs := ⟨h.1, (hb.block g h.lt).trans h.2⟩
theorem FH.cell {W : World} {g : Nat} {vs : Array Value} (h : FH W g vs) (i : Nat) : W.cell? ⟨g, i, none⟩ = vs[i]? := by simp [World.cell?, h.2]
theorem FH.frozen {W : World} {g : Nat} {vs : Array Value} (h : FH W g vs) (i : Nat) : W.frozen? ⟨g, i, none⟩ = false := by simp [World.frozen?, h.2]
theorem FH.set {W : World} {g : Nat} {vs : Array Value} (h : FH W g vs) (i : Nat) (v : Value) : FH (W.setCell ⟨g, i, none⟩ v) g (vs.setIfInBounds i v) := ⟨by simp [h.1], heap_setCell_same W g i _ _ v h.2⟩
theorem fh_new {W x : World} {vs : Array Value} (hs : vs.size = 7) (hb : Below (W.alloc (.cells vs 35 (0, 0))).heap.size (W.alloc (.cells vs 35 (0, 0))) x) : FH x W.heap.size vs :=
  ⟨hs, (hb.block W.heap.size (by simp)).trans (heap_alloc_new W _)⟩
theorem fh_drew {W x : World} {vs : Array Value} (hs : vs.size = 7) (hb : Below (W.alloc (.cells vs 35 (0, 0))).drew.heap.size (W.alloc (.cells vs 35 (0, 0))).drew x) : FH x W.heap.size vs :=
  fh_new hs (g_trans (g_drew (g_refl (a := W.alloc (.cells vs 35 (0, 0))))) hb)
abbrev z7 : Array Value := #[.string ⟨#[]⟩, .string ⟨#[]⟩, .string ⟨#[]⟩, .string ⟨#[]⟩, .string ⟨#[]⟩, .string ⟨#[]⟩, .bool false]
theorem FH.seven {W : World} {g : Nat} (h : FH W g z7) : (W.cell? ⟨g, 0, none⟩ = some (.string ⟨#[]⟩) ∧ W.cell? ⟨g, 1, none⟩ = some (.string ⟨#[]⟩) ∧ W.cell? ⟨g, 2, none⟩ = some (.string ⟨#[]⟩) ∧ W.cell? ⟨g, 3, none⟩ = some (.string ⟨#[]⟩) ∧ W.cell? ⟨g, 4, none⟩ = some (.string ⟨#[]⟩) ∧ W.cell? ⟨g, 5, none⟩ = some (.string ⟨#[]⟩) ∧ W.cell? ⟨g, 6, none⟩ = some (.bool false)) ∧ (∀ i, W.frozen? ⟨g, i, none⟩ = false) :=
  ⟨⟨h.cell 0, h.cell 1, h.cell 2, h.cell 3, h.cell 4, h.cell 5, h.cell 6⟩, h.frozen⟩
theorem below_set7 {a b : World} {g : Nat} (h : Below a.heap.size a b) (hg : a.heap.size ≤ g) (u0 u1 u2 u3 u4 u5 u6 : Value) : Below a.heap.size a ((((((((b).setCell ⟨g, 0, none⟩ u0).setCell ⟨g, 1, none⟩ u1).setCell ⟨g, 2, none⟩ u2).setCell ⟨g, 3, none⟩ u3).setCell ⟨g, 4, none⟩ u4).setCell ⟨g, 5, none⟩ u5).setCell ⟨g, 6, none⟩ u6) :=
  g_set (g_set (g_set (g_set (g_set (g_set (g_set h hg _) hg _) hg _) hg _) hg _) hg _) hg _
theorem orI_l (n : Int) : orI n 0 = n := by unfold orI; split <;> omega
theorem orI_r (n : Int) : orI 0 n = n := by unfold orI; rw [if_pos rfl]
/-- Both, of a filter that may be wrong and one that is valid -/
def bothE (n : Int) (R : Fil × Bool × Int) : Prop := R.2.2 = n ∧ (¬ n = 0 → R = (zF, false, n))
theorem bothE_l {f g : Fil} {n : Int} (hf : fchk f = n) (hg : fchk g = 0) : bothE n (bothR f g) := by
  have h : orI (fchk f) (fchk g) = n := by rw [hf, hg, orI_l]
  by_cases h0 : n = 0
  · subst h0
    refine ⟨?_, fun k => absurd rfl k⟩
    cases hc : clash f g
    · rw [bothR_yes h hc]
    · rw [bothR_no h hc]
  · rw [bothR_err h h0]; exact ⟨rfl, fun _ => rfl⟩
theorem bothE_r {f g : Fil} {n : Int} (hf : fchk f = n) (hg : fchk g = 0) : bothE n (bothR g f) := by
  have h : orI (fchk g) (fchk f) = n := by rw [hf, hg, orI_r]
  by_cases h0 : n = 0
  · subst h0
    refine ⟨?_, fun k => absurd rfl k⟩
    cases hc : clash g f
    · rw [bothR_yes h hc]
    · rw [bothR_no h hc]
  · rw [bothR_err h h0]; exact ⟨rfl, fun _ => rfl⟩
theorem both_v (f g : Fil) (ra rb rc rd re rf : ByteArray) (rx u : Bool) (m : Int) (w : World) (hF : FitF f) (hG : FitF g) (hR : bothR f g = (⟨ra, rb, rc, rd, re, rf, rx⟩, u, m)) :
    Calls Try.prog 8 #[.agg #[.string f.a, .string f.b, .string f.c, .string f.d, .string f.e, .string f.f, .bool f.x], .agg #[.string g.a, .string g.b, .string g.c, .string g.d, .string g.e, .string g.f, .bool g.x]] w fun r w' => r = .returned (.tuple #[.agg #[.string ra, .string rb, .string rc, .string rd, .string re, .string rf, .bool rx], .bool u, .int .i64 m]) ∧ Below w.heap.size w w' := by
  have q := both_any f g w hF hG; unfold BothRet at q; rw [hR] at q; exact q
theorem ofF_v (p q n : Nat) (g : Fil) (w : World) (hp : p < 256) (hq : q < 256) (h : ofF p q n = g) :
    Calls Try.prog 7 #[.agg #[.int .u8 p, .int .u8 q, .int .u8 n]] w fun r w' => r = .returned (.agg #[.string g.a, .string g.b, .string g.c, .string g.d, .string g.e, .string g.f, .bool g.x]) ∧ Grew w w' := by
  have q := ofF_any p q n w hp hq; rw [h] at q; exact q
theorem fprefix_v (a b c d e f : ByteArray) (x : Bool) (n : Int) (w : World) (h : fpre ⟨a, b, c, d, e, f, x⟩ = n) :
    Calls Try.prog 15 #[.agg #[.string a, .string b, .string c, .string d, .string e, .string f, .bool x]] w fun r w' => r = .returned (.int .i64 n) ∧ Below w.heap.size w w' := by
  have q := fprefix ⟨a, b, c, d, e, f, x⟩ w; rw [h] at q; exact q
theorem ris_v (A : Option Addr) (l : List Tup) (c : Nat) (u : Bool) (w : World) (hR : Row w A l) (hF : ∀ x ∈ l, Fits x) (hn : l.length ≤ maxLen) (h : isB cmpT l = u) :
    Calls Try.prog 12 #[.slice A l.length c] w fun e w' => e = .returned (.int .i64 (if u then 1 else 0)) ∧ Grew w w' := by
  have q := ris A l c w hR hF hn; unfold isI at q; rw [h] at q; exact q

/-- Span and Select, whatever the filter and the list are -/
theorem err_calls (F : Fil) (A : Option Addr) (l : List Tup) (cl : Nat) (k : Int) (hF : FitF F) (hc : l.length ≤ cl) (hA : (A = none ∧ cl = 0) ∨ ∃ b o, A = some ⟨b, o, none⟩) (hln : l.length ≤ 20) (hk : fchk F = k) : ∃ m fr t2 : Int,
    ((¬ k = 0 ∧ m = k) ∨ (k = 0 ∧ isB cmpT l = false ∧ m = 18) ∨ (k = 0 ∧ isB cmpT l = true ∧ m = 0)) ∧ (¬ m = 0 → fr = 0 ∧ t2 = 0) ∧ ((0 ≤ fr ∧ fr ≤ 20) ∧ (0 ≤ t2 ∧ t2 ≤ 20)) ∧
    (∀ W, Row W A l → Calls Try.prog 13 #[.slice A l.length cl, valF F] W fun r w' => r = .returned (.tuple #[.int .i64 fr, .int .i64 t2, .int .i64 m]) ∧ Below W.heap.size W w') ∧
    (∀ W, Row W A l → Calls Try.prog 14 #[.slice A l.length cl, valF F] W fun r w' => ∃ A' s, r = .returned (.tuple #[.slice A' s s, .int .i64 m]) ∧ s ≤ 20 ∧ (¬ m = 0 → s = 0) ∧ Below W.heap.size W w') := by
  have hmx : l.length ≤ maxLen := by unfold maxLen; omega
  by_cases h0 : k = 0
  · subst h0
    cases hb : isB cmpT l
    · refine ⟨18, 0, 0, .inr (.inl ⟨rfl, rfl, rfl⟩), fun _ => ⟨rfl, rfl⟩, by omega, fun W hW => span_ord F A l cl W hF hW hmx hk hb, fun W hW => ?_⟩
      exact (sel_err F (.slice A l.length cl) 18 W (by decide) (fun w' hb' => span_ord F A l cl w' hF (Row.below hW hb') hmx hk hb)).mono fun _ _ ⟨e, h⟩ => ⟨none, 0, e, by omega, fun _ => rfl, h⟩
    · have h1 := hi_le F l
      have h2 := lo_le F l
      refine ⟨0, lo F l, hi F l, .inr (.inr ⟨rfl, rfl, rfl⟩), fun h => absurd rfl h, by omega, fun W hW => span_ok F A l cl W hF hW (by omega) hk hb, fun W hW => ?_⟩
      have h3 : (l.filter (takes F)).length ≤ l.length := List.length_filter_le _ _
      exact (select_any F A l cl W hA hF hW hc (by omega) hk hb).mono fun _ _ ⟨A', e, _, _, h⟩ => ⟨A', _, e, by omega, fun h => absurd rfl h, h⟩
  · refine ⟨k, 0, 0, .inl ⟨h0, rfl⟩, fun _ => ⟨rfl, rfl⟩, by omega, fun W hW => span_chk F _ k W hF hk h0, fun W hW => ?_⟩
    exact (sel_err F (.slice A l.length cl) k W h0 (fun w' _ => span_chk F _ k w' hF hk h0)).mono fun _ _ ⟨e, h⟩ => ⟨none, 0, e, by omega, fun _ => rfl, h⟩
/-- the state behind the boxes -/
structure ES (w W : World) (a b c d e f : ByteArray) (x : Bool) (p q n : Nat) (A : Option Addr) (l : List Tup) : Prop where
  cells : W.cell? ⟨w.heap.size, 0, none⟩ = some (.string a) ∧ W.cell? ⟨w.heap.size, 1, none⟩ = some (.string b) ∧ W.cell? ⟨w.heap.size, 2, none⟩ = some (.string c) ∧ W.cell? ⟨w.heap.size, 3, none⟩ = some (.string d) ∧ W.cell? ⟨w.heap.size, 4, none⟩ = some (.string e) ∧ W.cell? ⟨w.heap.size, 5, none⟩ = some (.string f) ∧ W.cell? ⟨w.heap.size, 6, none⟩ = some (.bool x) ∧ W.cell? ⟨w.heap.size + 1, 0, none⟩ = some (.int .u8 p) ∧ W.cell? ⟨w.heap.size + 1, 1, none⟩ = some (.int .u8 q) ∧ W.cell? ⟨w.heap.size + 1, 2, none⟩ = some (.int .u8 n)
  row : Row W A l
  bel : Below w.heap.size w W
theorem ES.below {w W W' : World} {a b c d e f : ByteArray} {x : Bool} {p q n : Nat} {A : Option Addr} {l : List Tup} (h : ES w W a b c d e f x p q n A l) (hb : Below W.heap.size W W') : ES w W' a b c d e f x p q n A l :=
  ⟨er_keep hb h.cells, h.row.below hb, g_trans h.bel hb⟩
end Go.Proofs.Ytgfgfggoofjeeaa
namespace Go.Proofs.Ytgfgfggoofjeeaa.FB
open Go.RowKit Go.Sort

theorem box_cell {w : World} {b : Nat} {t : TypeId} {arr : Array Value} (h : w.heap[b]? = some (.cells arr t (0, 0))) (i : Nat) : w.cell? ⟨b, i, none⟩ = arr[i]? := by
  simp [World.cell?, h]
theorem box_frozen {w : World} {b : Nat} {t : TypeId} {arr : Array Value} (h : w.heap[b]? = some (.cells arr t (0, 0))) (i : Nat) : w.frozen? ⟨b, i, none⟩ = false := by
  simp [World.frozen?, h]
theorem new_at (w : World) (o : Obj) : (w.alloc o).heap[w.heap.size]? = some o := by
  show (w.heap.push o)[w.heap.size]? = _
  simp
theorem new_old {w : World} {g : Nat} {o x : Obj} (h : w.heap[g]? = some x) : (w.alloc o).heap[g]? = some x := by
  have hl := (Array.getElem?_eq_some_iff.1 h).1
  show (w.heap.push o)[g]? = _
  rw [Array.getElem?_push, if_neg (by omega)]; exact h
theorem fk1 {a b : World} {p o : Nat} {x : Value} (h : Below a.heap.size a b) (s : a.cell? ⟨p, o, none⟩ = some x) : b.cell? ⟨p, o, none⟩ = some x :=
  (h.cell (p := ⟨p, o, none⟩) (World.block_lt_of_cell? _ _ s)).trans s
/-- a block of a type with so many cells -/
def Blk (W : World) (g : Nat) (t : TypeId) (cs : Array Value) : Prop := W.heap[g]? = some (.cells cs t (0, 0))
def Big (W : World) (g : Nat) (t : TypeId) (n : Nat) : Prop := ∃ cs, Blk W g t cs ∧ cs.size = n
/-- the store, and the world behind it -/
def stB (t : TypeId) (p : Addr) (v : Value) : Sem Unit := storeVar t p v
def putB (W : World) (g : Nat) (cs : Array Value) : World := W.setCells g 0 cs.toList
section
variable {W x : World} {g k : Nat} {t t' : TypeId} {cs ds : Array Value} {n m : Nat}
theorem Blk.big (h : Blk W g t cs) : Big W g t cs.size := ⟨cs, h, rfl⟩
theorem Blk.lt (h : Blk W g t cs) : g < W.heap.size := (Array.getElem?_eq_some_iff.1 h).1
theorem Big.lt (h : Big W g t n) : g < W.heap.size := by obtain ⟨cs, h, -⟩ := h; exact h.lt
theorem Blk.below (h : Blk W g t cs) (hb : Below W.heap.size W x) : Blk x g t cs := (hb.block g h.lt).trans h
theorem Big.below (h : Big W g t n) (hb : Below W.heap.size W x) : Big x g t n := by obtain ⟨cs, h, e⟩ := h; exact ⟨cs, h.below hb, e⟩
theorem Blk.old (h : Blk W g t cs) (o : Obj) : Blk (W.alloc o) g t cs := new_old h
theorem Big.old (h : Big W g t n) (o : Obj) : Big (W.alloc o) g t n := by obtain ⟨cs, h, e⟩ := h; exact ⟨cs, h.old o, e⟩
theorem Blk.drew (h : Blk W g t cs) : Blk W.drew g t cs := h
theorem Big.drew (h : Big W g t n) : Big W.drew g t n := h
theorem Blk.new (W : World) (t : TypeId) (cs : Array Value) : Blk (W.alloc (.cells cs t (0, 0))) W.heap.size t cs := new_at _ _
theorem Blk.new1 (W : World) (o : Obj) (t : TypeId) (cs : Array Value) : Blk ((W.alloc o).alloc (.cells cs t (0, 0))) (W.heap.size + 1) t cs := by
  have h := Blk.new (W.alloc o) t cs
  rw [show (W.alloc o).heap.size = W.heap.size + 1 by simp] at h; exact h
theorem Blk.cell (h : Blk W g t cs) (j : Nat) : W.cell? ⟨g, j, none⟩ = cs[j]? := box_cell h j
theorem Big.there (h : Big W g t n) : W.there g 0 n := fun j hj => by
  obtain ⟨cs, h, e⟩ := h
  rw [Nat.zero_add, h.cell j, Array.getElem?_eq_getElem (by omega)]
  refine ⟨rfl, ?_⟩
  unfold Blk at h; simp [World.frozen?, h]
theorem set_blk (cs : List Value) : ∀ (W : World) (i : Nat) (ds : Array Value), Blk W g t ds → ∃ es, Blk (W.setCells g i cs) g t es ∧ es.size = ds.size := by
  induction cs with
  | nil => exact fun W i ds h => ⟨ds, h, rfl⟩
  | cons v r ih =>
    intro W i ds h
    obtain ⟨es, h2, e⟩ := ih (W.setCell ⟨g, i, none⟩ v) (i + 1) _ (heap_setCell_same W g i ds t v h)
    exact ⟨es, h2, by rw [e]; simp⟩
theorem set_apart (hn : ¬ k = g) (cs : List Value) : ∀ (W : World) (i : Nat), (W.setCells g i cs).heap[k]? = W.heap[k]? := by
  induction cs with
  | nil => exact fun W i => rfl
  | cons v r ih => intro W i; exact (ih (W.setCell ⟨g, i, none⟩ v) (i + 1)).trans (heap_setCell_other W ⟨g, i, none⟩ k v hn)
theorem Big.put (h : Big W g t n) (k : Nat) (cs : Array Value) : Big (putB W k cs) g t n := by
  obtain ⟨ds, h, e⟩ := h
  by_cases hk : g = k
  · subst hk
    obtain ⟨es, h2, e2⟩ := set_blk cs.toList W 0 ds h
    exact ⟨es, h2, e2.trans e⟩
  · exact ⟨ds, (set_apart hk cs.toList W 0).trans h, e⟩
theorem Blk.put (h : Blk W g t ds) (hn : ¬ g = k) (cs : Array Value) : Blk (putB W k cs) g t ds := (set_apart hn cs.toList W 0).trans h
theorem Big.same (h : Big W g t n) (cs : Array Value) (hn : cs.size = n) : Blk (putB W g cs) g t cs := by
  have ht := h.there
  obtain ⟨ds, h0, e⟩ := h
  obtain ⟨es, h2, e2⟩ := set_blk cs.toList W 0 ds h0
  have hr := World.rangeAt_setCells_same W g 0 cs.toList (by rw [Array.length_toList, hn]; exact ht)
  have : es = cs := by
    refine Array.ext (by omega) fun j h1 h3 => ?_
    have h4 := hr j cs[j] (by simp [h3])
    rw [Nat.zero_add] at h4
    have h5 := Blk.cell (W := putB W g cs) h2 j
    rw [show (putB W g cs).cell? ⟨g, j, none⟩ = some cs[j] from h4, Array.getElem?_eq_getElem h1] at h5
    exact (Option.some.inj h5).symm
  rw [← this]; rw [this]; rw [this] at h2; exact h2
theorem g_put {a b : World} (h : Below a.heap.size a b) (hp : a.heap.size ≤ g) (cs : Array Value) : Below a.heap.size a (putB b g cs) := by
  unfold putB
  generalize cs.toList = l
  suffices H : ∀ (l : List Value) (i : Nat) (b : World), Below a.heap.size a b → Below a.heap.size a (b.setCells g i l) from H l 0 b h
  intro l
  induction l with
  | nil => exact fun i b h => h
  | cons v r ih => intro i b h; exact ih (i + 1) _ (g_set h (p := ⟨g, i, none⟩) hp v)
theorem put_cell (hn : ¬ k = g) (i : Nat) (cs : Array Value) : (putB W g cs).cell? ⟨k, i, none⟩ = W.cell? ⟨k, i, none⟩ := by
  unfold putB; exact World.cell?_setCells_out g _ 0 W _ (fun e _ => absurd e hn)
end
theorem storeVar_fil (p : Addr) (v : Value) : storeVar 35 p v = stB 35 p v := rfl
theorem run_fil {W : World} {g : Nat} (h : Big W g 35 7) (a b c d e f : ByteArray) (x : Bool) :
    (stB 35 ⟨g, 0, none⟩ (.agg #[.string a, .string b, .string c, .string d, .string e, .string f, .bool x])).run Try.prog W = .ok () (putB W g #[.string a, .string b, .string c, .string d, .string e, .string f, .bool x]) :=
  run_storeVar_mid W g 0 35 #[.string a, .string b, .string c, .string d, .string e, .string f, .bool x] h.there (by kernel_rfl) (by simp [Value.oneCell'])
theorem bf_new (W : World) : Big (W.alloc (.cells #[.string ⟨#[]⟩, .string ⟨#[]⟩, .string ⟨#[]⟩, .string ⟨#[]⟩, .string ⟨#[]⟩, .string ⟨#[]⟩, .bool false] 35 (0, 0))) W.heap.size 35 7 := (Blk.new W _ _).big
theorem bf_new1 (W : World) (o : Obj) : Big ((W.alloc o).alloc (.cells #[.string ⟨#[]⟩, .string ⟨#[]⟩, .string ⟨#[]⟩, .string ⟨#[]⟩, .string ⟨#[]⟩, .string ⟨#[]⟩, .bool false] 35 (0, 0))) (W.heap.size + 1) 35 7 := (Blk.new1 W o _ _).big
theorem bf_newo (W : World) (o : Obj) : Big ((W.alloc (.cells #[.string ⟨#[]⟩, .string ⟨#[]⟩, .string ⟨#[]⟩, .string ⟨#[]⟩, .string ⟨#[]⟩, .string ⟨#[]⟩, .bool false] 35 (0, 0))).alloc o) W.heap.size 35 7 := (bf_new W).old o
theorem putB_sz (W : World) (g : Nat) (cs : Array Value) : (putB W g cs).heap.size = W.heap.size := by
  unfold putB
  generalize cs.toList = l
  suffices H : ∀ (l : List Value) (i : Nat) (W : World), (W.setCells g i l).heap.size = W.heap.size from H l 0 W
  intro l
  induction l with
  | nil => exact fun i W => rfl
  | cons v r ih => exact fun i W => (ih (i + 1) _).trans (by simp)
/-- both blocks lie ahead of the stores -/
theorem ends_a {w X : World} {g g' : Nat} {t1 t2 : TypeId} {n1 n2 : Nat} {cs ds : Array Value} (hX : Below w.heap.size w X) (h1 : Big X g t1 n1) (h2 : Big X g' t2 n2) (e1 : cs.size = n1) (e2 : ds.size = n2) (hne : ¬ g = g') (hg : w.heap.size ≤ g) (hg' : w.heap.size ≤ g') :
    ∃ p p', Value.pointer (some ⟨g, 0, none⟩) = Value.pointer (some ⟨p, 0, none⟩) ∧ Value.pointer (some ⟨g', 0, none⟩) = Value.pointer (some ⟨p', 0, none⟩) ∧ ¬ p = p' ∧ w.heap.size ≤ p ∧ w.heap.size ≤ p' ∧ Blk (putB (putB X g cs) g' ds) p t1 cs ∧ Blk (putB (putB X g cs) g' ds) p' t2 ds ∧ Below w.heap.size w (putB (putB X g cs) g' ds) :=
  ⟨g, g', rfl, rfl, hne, hg, hg', Blk.put (Big.same h1 _ e1) hne _, Big.same (Big.put h2 _ _) _ e2, g_put (g_put hX hg _) hg' _⟩
/-- the second block is made behind the first store -/
theorem ends_b {w X : World} {g : Nat} {t1 t2 : TypeId} {n1 : Nat} {cs ds zs : Array Value} (hX : Below w.heap.size w X) (h1 : Big X g t1 n1) (e1 : cs.size = n1) (hz : zs.size = ds.size) (hg : w.heap.size ≤ g) :
    ∃ p p', Value.pointer (some ⟨g, 0, none⟩) = Value.pointer (some ⟨p, 0, none⟩) ∧ Value.pointer (some ⟨(putB X g cs).heap.size, 0, none⟩) = Value.pointer (some ⟨p', 0, none⟩) ∧ ¬ p = p' ∧ w.heap.size ≤ p ∧ w.heap.size ≤ p' ∧ Blk (putB ((putB X g cs).alloc (.cells zs t2 (0, 0))) (putB X g cs).heap.size ds) p t1 cs ∧ Blk (putB ((putB X g cs).alloc (.cells zs t2 (0, 0))) (putB X g cs).heap.size ds) p' t2 ds ∧ Below w.heap.size w (putB ((putB X g cs).alloc (.cells zs t2 (0, 0))) (putB X g cs).heap.size ds) := by
  have hb := Big.same h1 cs e1
  have hl := hb.lt
  have hs : w.heap.size ≤ (putB X g cs).heap.size := by rw [putB_sz]; exact hX.size
  exact ⟨g, _, rfl, rfl, by omega, hg, hs, Blk.put (Blk.old hb _) (by omega) _, Big.same (hz ▸ (Blk.new _ _ _).big) _ rfl, g_put (g_alloc (g_put hX hg _) _) hs _⟩
theorem kpn10 {a b : World} {p0 p1 p2 p3 p4 p5 p6 p7 p8 p9 o0 o1 o2 o3 o4 o5 o6 o7 o8 o9 : Nat} {x0 x1 x2 x3 x4 x5 x6 x7 x8 x9 : Value} (h : Below a.heap.size a b)
    (s : a.cell? ⟨p0, o0, none⟩ = some x0 ∧ a.cell? ⟨p1, o1, none⟩ = some x1 ∧ a.cell? ⟨p2, o2, none⟩ = some x2 ∧ a.cell? ⟨p3, o3, none⟩ = some x3 ∧ a.cell? ⟨p4, o4, none⟩ = some x4 ∧ a.cell? ⟨p5, o5, none⟩ = some x5 ∧ a.cell? ⟨p6, o6, none⟩ = some x6 ∧ a.cell? ⟨p7, o7, none⟩ = some x7 ∧ a.cell? ⟨p8, o8, none⟩ = some x8 ∧ a.cell? ⟨p9, o9, none⟩ = some x9) : b.cell? ⟨p0, o0, none⟩ = some x0 ∧ b.cell? ⟨p1, o1, none⟩ = some x1 ∧ b.cell? ⟨p2, o2, none⟩ = some x2 ∧ b.cell? ⟨p3, o3, none⟩ = some x3 ∧ b.cell? ⟨p4, o4, none⟩ = some x4 ∧ b.cell? ⟨p5, o5, none⟩ = some x5 ∧ b.cell? ⟨p6, o6, none⟩ = some x6 ∧ b.cell? ⟨p7, o7, none⟩ = some x7 ∧ b.cell? ⟨p8, o8, none⟩ = some x8 ∧ b.cell? ⟨p9, o9, none⟩ = some x9 :=
  ⟨fk1 h s.1, fk1 h s.2.1, fk1 h s.2.2.1, fk1 h s.2.2.2.1, fk1 h s.2.2.2.2.1, fk1 h s.2.2.2.2.2.1, fk1 h s.2.2.2.2.2.2.1, fk1 h s.2.2.2.2.2.2.2.1, fk1 h s.2.2.2.2.2.2.2.2.1, fk1 h s.2.2.2.2.2.2.2.2.2⟩
theorem kpp10 {W : World} {g : Nat} {cs : Array Value} {p0 p1 p2 p3 p4 p5 p6 p7 p8 p9 o0 o1 o2 o3 o4 o5 o6 o7 o8 o9 : Nat} {x0 x1 x2 x3 x4 x5 x6 x7 x8 x9 : Value} (h0 : ¬ p0 = g) (h1 : ¬ p1 = g) (h2 : ¬ p2 = g) (h3 : ¬ p3 = g) (h4 : ¬ p4 = g) (h5 : ¬ p5 = g) (h6 : ¬ p6 = g) (h7 : ¬ p7 = g) (h8 : ¬ p8 = g) (h9 : ¬ p9 = g)
    (s : W.cell? ⟨p0, o0, none⟩ = some x0 ∧ W.cell? ⟨p1, o1, none⟩ = some x1 ∧ W.cell? ⟨p2, o2, none⟩ = some x2 ∧ W.cell? ⟨p3, o3, none⟩ = some x3 ∧ W.cell? ⟨p4, o4, none⟩ = some x4 ∧ W.cell? ⟨p5, o5, none⟩ = some x5 ∧ W.cell? ⟨p6, o6, none⟩ = some x6 ∧ W.cell? ⟨p7, o7, none⟩ = some x7 ∧ W.cell? ⟨p8, o8, none⟩ = some x8 ∧ W.cell? ⟨p9, o9, none⟩ = some x9) : (putB W g cs).cell? ⟨p0, o0, none⟩ = some x0 ∧ (putB W g cs).cell? ⟨p1, o1, none⟩ = some x1 ∧ (putB W g cs).cell? ⟨p2, o2, none⟩ = some x2 ∧ (putB W g cs).cell? ⟨p3, o3, none⟩ = some x3 ∧ (putB W g cs).cell? ⟨p4, o4, none⟩ = some x4 ∧ (putB W g cs).cell? ⟨p5, o5, none⟩ = some x5 ∧ (putB W g cs).cell? ⟨p6, o6, none⟩ = some x6 ∧ (putB W g cs).cell? ⟨p7, o7, none⟩ = some x7 ∧ (putB W g cs).cell? ⟨p8, o8, none⟩ = some x8 ∧ (putB W g cs).cell? ⟨p9, o9, none⟩ = some x9 :=
  ⟨(put_cell h0 _ _).trans s.1, (put_cell h1 _ _).trans s.2.1, (put_cell h2 _ _).trans s.2.2.1, (put_cell h3 _ _).trans s.2.2.2.1, (put_cell h4 _ _).trans s.2.2.2.2.1, (put_cell h5 _ _).trans s.2.2.2.2.2.1, (put_cell h6 _ _).trans s.2.2.2.2.2.2.1, (put_cell h7 _ _).trans s.2.2.2.2.2.2.2.1, (put_cell h8 _ _).trans s.2.2.2.2.2.2.2.2.1, (put_cell h9 _ _).trans s.2.2.2.2.2.2.2.2.2⟩
theorem kpn14 {a b : World} {p0 p1 p2 p3 p4 p5 p6 p7 p8 p9 p10 p11 p12 p13 o0 o1 o2 o3 o4 o5 o6 o7 o8 o9 o10 o11 o12 o13 : Nat} {x0 x1 x2 x3 x4 x5 x6 x7 x8 x9 x10 x11 x12 x13 : Value} (h : Below a.heap.size a b)
    (s : a.cell? ⟨p0, o0, none⟩ = some x0 ∧ a.cell? ⟨p1, o1, none⟩ = some x1 ∧ a.cell? ⟨p2, o2, none⟩ = some x2 ∧ a.cell? ⟨p3, o3, none⟩ = some x3 ∧ a.cell? ⟨p4, o4, none⟩ = some x4 ∧ a.cell? ⟨p5, o5, none⟩ = some x5 ∧ a.cell? ⟨p6, o6, none⟩ = some x6 ∧ a.cell? ⟨p7, o7, none⟩ = some x7 ∧ a.cell? ⟨p8, o8, none⟩ = some x8 ∧ a.cell? ⟨p9, o9, none⟩ = some x9 ∧ a.cell? ⟨p10, o10, none⟩ = some x10 ∧ a.cell? ⟨p11, o11, none⟩ = some x11 ∧ a.cell? ⟨p12, o12, none⟩ = some x12 ∧ a.cell? ⟨p13, o13, none⟩ = some x13) : b.cell? ⟨p0, o0, none⟩ = some x0 ∧ b.cell? ⟨p1, o1, none⟩ = some x1 ∧ b.cell? ⟨p2, o2, none⟩ = some x2 ∧ b.cell? ⟨p3, o3, none⟩ = some x3 ∧ b.cell? ⟨p4, o4, none⟩ = some x4 ∧ b.cell? ⟨p5, o5, none⟩ = some x5 ∧ b.cell? ⟨p6, o6, none⟩ = some x6 ∧ b.cell? ⟨p7, o7, none⟩ = some x7 ∧ b.cell? ⟨p8, o8, none⟩ = some x8 ∧ b.cell? ⟨p9, o9, none⟩ = some x9 ∧ b.cell? ⟨p10, o10, none⟩ = some x10 ∧ b.cell? ⟨p11, o11, none⟩ = some x11 ∧ b.cell? ⟨p12, o12, none⟩ = some x12 ∧ b.cell? ⟨p13, o13, none⟩ = some x13 :=
  ⟨fk1 h s.1, fk1 h s.2.1, fk1 h s.2.2.1, fk1 h s.2.2.2.1, fk1 h s.2.2.2.2.1, fk1 h s.2.2.2.2.2.1, fk1 h s.2.2.2.2.2.2.1, fk1 h s.2.2.2.2.2.2.2.1, fk1 h s.2.2.2.2.2.2.2.2.1, fk1 h s.2.2.2.2.2.2.2.2.2.1, fk1 h s.2.2.2.2.2.2.2.2.2.2.1, fk1 h s.2.2.2.2.2.2.2.2.2.2.2.1, fk1 h s.2.2.2.2.2.2.2.2.2.2.2.2.1, fk1 h s.2.2.2.2.2.2.2.2.2.2.2.2.2⟩
set_option maxRecDepth 20000 in
set_option maxHeartbeats 2000000 in
theorem fprefix_w (f : Fil) (w : World) :
    Calls Try.prog 15 #[valF f] w fun r w' => r = .returned (.int .i64 (fpre f)) ∧ Grew w w' := by
  obtain ⟨a, b, c, d, e, f, x⟩ := f
  simp only [valF]
  have i0 := Go.Proofs.Ytgfgfggoofjeeaa.ar0 a b c
  have i1 := ar1 a b c
  have i2 := ar2 a b c
  go_enter Try.func15, Try.ntmps15
  go_wp2
  go_loopw [12] (fun i wr => ∃ k : Nat, k ≤ 3 ∧ i = .int .i64 k ∧ (0 < k → a.toList.isEmpty = false) ∧ (1 < k → b.toList.isEmpty = false) ∧ (2 < k → c.toList.isEmpty = false) ∧ (w.alloc (.cells #[.string a, .string b, .string c, .string d, .string e, .string f, .bool x] 35)) = wr) (fun i _ => 3 - (intOf i).toNat)
  case atStart => exact ⟨0, by omega, rfl, fun h => absurd h (by omega), fun h => absurd h (by omega), fun h => absurd h (by omega), rfl⟩
  case round =>
    obtain ⟨k, hk, rfl, ha, hb, hc, rfl⟩ := hrel
    have HA := hid ha; clear ha
    have HB := hid hb; clear hb
    have HC := hid hc; clear hc
    have hw : Grew w (w.alloc (.cells #[.string a, .string b, .string c, .string d, .string e, .string f, .bool x] 35)) := gw_alloc gw_refl _
    rcases (show k = 0 ∨ k = 1 ∨ k = 2 ∨ k = 3 by omega) with rfl | rfl | rfl | rfl <;> clear hk
    · cases ea : a.toList.isEmpty
      · go_wp2
        go_roundw
        case rel => exact ⟨0+1, by omega, by go_num, fun _ => by first | trivial | exact ea | simp_all, fun h => absurd h (by omega), fun h => absurd h (by omega), by trivial⟩
        case measure => simp [intOf]
      · have HK := hid (fpre0 (f := ⟨a, b, c, d, e, f, x⟩)  ea)
        go_wp2
        go_ret
        exact ⟨ret_int HK.out.symm, hw⟩
    · cases eb : b.toList.isEmpty
      · go_wp2
        go_roundw
        case rel => exact ⟨1+1, by omega, by go_num, fun _ => HA.out (by omega), fun _ => by first | trivial | exact eb | simp_all, fun h => absurd h (by omega), by trivial⟩
        case measure => simp [intOf]
      · have HK := hid (fpre1 (f := ⟨a, b, c, d, e, f, x⟩) (HA.out (by omega)) eb)
        go_wp2
        go_ret
        exact ⟨ret_int HK.out.symm, hw⟩
    · cases ec : c.toList.isEmpty
      · go_wp2
        go_roundw
        case rel => exact ⟨2+1, by omega, by go_num, fun _ => HA.out (by omega), fun _ => HB.out (by omega), fun _ => by first | trivial | exact ec | simp_all, by trivial⟩
        case measure => simp [intOf]
      · have HK := hid (fpre2 (f := ⟨a, b, c, d, e, f, x⟩) (HA.out (by omega)) (HB.out (by omega)) ec)
        go_wp2
        go_ret
        exact ⟨ret_int HK.out.symm, hw⟩
    · cases x
      · have HK := hid (fpre3 (f := ⟨a, b, c, d, e, f, false⟩) (HA.out (by omega)) (HB.out (by omega)) (HC.out (by omega)) rfl)
        go_wp2
        go_ret
        exact ⟨ret_int HK.out.symm, hw⟩
      · have HK := hid (fpre4 (f := ⟨a, b, c, d, e, f, true⟩) (HA.out (by omega)) (HB.out (by omega)) (HC.out (by omega)) rfl)
        go_wp2
        go_ret
        exact ⟨ret_int HK.out.symm, hw⟩

theorem fprefix_q (f : Fil) (n : Int) (hv : fpre f = n) (w : World) (m : Nat) (os : Array Obj) :
    Calls Try.prog 15 #[.agg #[.string f.a, .string f.b, .string f.c, .string f.d, .string f.e, .string f.f, .bool f.x]] (grow (w.drewN m) os) fun e w'' => e = .returned (.int .i64 n) ∧ ∃ p : GrownBy, w'' = grow (w.drewN p.n) p.os :=
  Calls.grown_of ((fprefix_w f _).mono fun _ _ h => ⟨by rw [h.1, hv], h.2.out⟩)
theorem rprefix_q (f : Fil) (n : Int) (hv : fpre f = n) (w : World) (m : Nat) (os : Array Obj) :
    Calls Try.prog 16 #[.agg #[.string f.a, .string f.b, .string f.c, .string f.d, .string f.e, .string f.f, .bool f.x]] (grow (w.drewN m) os) fun e w'' => e = .returned (.int .i64 n) ∧ ∃ p : GrownBy, w'' = grow (w.drewN p.n) p.os :=
  Calls.grown_of ((rprefix_gw f.a f.b f.c f.d f.e f.f f.x n _ hv).mono fun _ _ h => ⟨h.1, h.2.out⟩)
end Go.Proofs.Ytgfgfggoofjeeaa.FB
namespace Go.Proofs.Ytgfgfggoofjeeaa
open Go.RowKit Go.Sort

theorem okF_or {u v : ByteArray} (h : clF u v = false) (w : ByteArray) : okF (orS u v) w = (okF u w && okF v w) := by
  unfold clF at h
  unfold okF orS
  cases hu : u.toList.isEmpty
  · cases hv : v.toList.isEmpty
    · have e : u = v := by simpa [hu, hv] using h
      subst e; simp [hu]
    · simp [hu]
  · simp
theorem okF_no {u v : ByteArray} (h : clF u v = true) (w : ByteArray) : (okF u w && okF v w) = false := by
  unfold clF at h
  simp only [Bool.and_eq_true, Bool.not_eq_true', decide_eq_false_iff_not] at h
  obtain ⟨⟨hu, hv⟩, hn⟩ := h
  unfold okF
  rw [hu, hv, Bool.false_or, Bool.false_or]
  by_cases e : u = w
  · by_cases e' : v = w
    · exact absurd (e.trans e'.symm) hn
    · simp [e']
  · simp [e]
def subT (f : Fil) (t : Tup) : Bool := !f.x || decide (f.d = t.d ∧ f.e = t.e ∧ f.f = t.f)
theorem noS_e {f : Fil} (h : noS f = true) : f.d = ⟨#[]⟩ ∧ f.e = ⟨#[]⟩ ∧ f.f = ⟨#[]⟩ := by
  unfold noS at h
  simp only [Bool.and_eq_true] at h
  exact ⟨empty_of h.1.1, empty_of h.1.2, empty_of h.2⟩
theorem orU_rt {f g : Fil} (h : noS g = true) : orU (f.d, f.e, f.f) (g.d, g.e, g.f) = (f.d, f.e, f.f) := by
  unfold orU
  split
  · rename_i k
    have e : noS f = true := k
    obtain ⟨a, b, c⟩ := noS_e e
    obtain ⟨a', b', c'⟩ := noS_e h
    rw [a, b, c, a', b', c']
  · rfl
theorem orU_lf {f g : Fil} (h : noS f = true) : orU (f.d, f.e, f.f) (g.d, g.e, g.f) = (g.d, g.e, g.f) := by
  unfold orU
  exact if_pos h
theorem orU_q {f g : Fil} (h : f.d = g.d ∧ f.e = g.e ∧ f.f = g.f) : orU (f.d, f.e, f.f) (g.d, g.e, g.f) = (f.d, f.e, f.f) := by
  unfold orU
  split
  · rw [h.1, h.2.1, h.2.2]
  · rfl
theorem chk_noS {f : Fil} (h : fchk f = 0) : f.x = true ∨ noS f = true := by
  cases hx : f.x
  · cases hn : noS f
    · rw [fchk_form hx hn] at h; cases h
    · exact .inr rfl
  · exact .inl rfl
theorem both_takes {f g : Fil} (hf : fchk f = 0) (hg : fchk g = 0) (hc : clash f g = false) (t : Tup) : takes (bothF f g) t = (takes f t && takes g t) := by
  unfold clash at hc
  simp only [Bool.or_eq_false_iff] at hc
  obtain ⟨⟨⟨ha, hb⟩, hcc⟩, hs⟩ := hc
  have hsub : subT (bothF f g) t = (subT f t && subT g t) := by
    unfold subT bothF
    cases hx : f.x <;> cases hy : g.x
    · rfl
    · have k := (chk_noS hf).resolve_left (by rw [hx]; decide)
      rw [orU_lf k]; simp
    · have k := (chk_noS hg).resolve_left (by rw [hy]; decide)
      rw [orU_rt k]; simp
    · have k : f.d = g.d ∧ f.e = g.e ∧ f.f = g.f := by simpa [hx, hy] using hs
      rw [orU_q k, ← k.1, ← k.2.1, ← k.2.2]; simp
  have e : ∀ h : Fil, takes h t = (okF h.a t.a && okF h.b t.b && okF h.c t.c && subT h t) := fun _ => rfl
  rw [e, e, e, hsub, show (bothF f g).a = orS f.a g.a from rfl, show (bothF f g).b = orS f.b g.b from rfl, show (bothF f g).c = orS f.c g.c from rfl, okF_or ha, okF_or hb, okF_or hcc]
  cases okF f.a t.a <;> cases okF g.a t.a <;> cases okF f.b t.b <;> cases okF g.b t.b <;> cases okF f.c t.c <;> cases okF g.c t.c <;> cases subT f t <;> cases subT g t <;> rfl
theorem clash_takes {f g : Fil} (hc : clash f g = true) (t : Tup) : (takes f t && takes g t) = false := by
  have e : ∀ h : Fil, takes h t = (okF h.a t.a && okF h.b t.b && okF h.c t.c && subT h t) := fun _ => rfl
  have m : (takes f t && takes g t) = ((okF f.a t.a && okF g.a t.a) && (okF f.b t.b && okF g.b t.b) && (okF f.c t.c && okF g.c t.c) && (subT f t && subT g t)) := by
    rw [e, e]
    cases okF f.a t.a <;> cases okF g.a t.a <;> cases okF f.b t.b <;> cases okF g.b t.b <;> cases okF f.c t.c <;> cases okF g.c t.c <;> cases subT f t <;> cases subT g t <;> rfl
  rw [m]
  unfold clash at hc
  simp only [Bool.or_eq_true] at hc
  rcases hc with ((h | h) | h) | h
  · rw [okF_no h]; simp
  · rw [okF_no h]; simp
  · rw [okF_no h]; simp
  · simp only [Bool.and_eq_true, Bool.not_eq_true', decide_eq_false_iff_not] at h
    obtain ⟨⟨hx, hy⟩, hn⟩ := h
    have : (subT f t && subT g t) = false := by
      unfold subT
      rw [hx, hy]
      by_cases k : f.d = t.d ∧ f.e = t.e ∧ f.f = t.f
      · by_cases k' : g.d = t.d ∧ g.e = t.e ∧ g.f = t.f
        · exact absurd ⟨k.1.trans k'.1.symm, k.2.1.trans k'.2.1.symm, k.2.2.trans k'.2.2.symm⟩ hn
        · simp [k']
      · simp [k]
    rw [this, Bool.and_false]
theorem orS_self (u : ByteArray) : orS u u = u := by unfold orS; split <;> rfl
theorem clF_self (u : ByteArray) : clF u u = false := by unfold clF; simp
theorem both_self {f : Fil} (h : fchk f = 0) : bothR f f = (f, true, 0) := by
  have hc : clash f f = false := by unfold clash; rw [clF_self, clF_self, clF_self]; simp
  have he : bothF f f = f := by
    unfold bothF
    rw [orS_self, orS_self, orS_self, orU_q ⟨rfl, rfl, rfl⟩, Bool.or_self]
  rw [bothR_yes (by rw [h]; rfl) hc, he]
theorem okN_or {u v : ByteArray} (h : okN u = true) (k : okN v = true) : okN (orS u v) = true := by unfold orS; split <;> assumption
theorem chk_all {f : Fil} (h : fchk f = 0) : okN f.a = true ∧ okN f.b = true ∧ okN f.c = true ∧ (f.x = true → okSub f.d f.e f.f = true) := by
  unfold fchk at h
  split at h
  · cases h
  · split at h
    · rename_i k
      simp only [Bool.and_eq_true, Bool.or_eq_true, Bool.not_eq_true'] at k
      exact ⟨k.1.1.1, k.1.1.2, k.1.2, fun e => k.2.resolve_left (by rw [e]; decide)⟩
    · cases h
theorem both_chk {f g : Fil} (hf : fchk f = 0) (hg : fchk g = 0) (hc : clash f g = false) : fchk (bothF f g) = 0 := by
  obtain ⟨a1, b1, c1, s1⟩ := chk_all hf
  obtain ⟨a2, b2, c2, s2⟩ := chk_all hg
  unfold clash at hc
  simp only [Bool.or_eq_false_iff] at hc
  have ha : okN (bothF f g).a = true := okN_or a1 a2
  have hb : okN (bothF f g).b = true := okN_or b1 b2
  have hcc : okN (bothF f g).c = true := okN_or c1 c2
  cases hx : f.x <;> cases hy : g.x
  · have k := (chk_noS hf).resolve_left (by rw [hx]; decide)
    have k' := (chk_noS hg).resolve_left (by rw [hy]; decide)
    have hbx : (bothF f g).x = false := by unfold bothF; rw [hx, hy]; rfl
    have hn : noS (bothF f g) = true := by
      unfold noS bothF; rw [orU_lf k]; exact k'
    exact fchk_ok (by rw [hbx, hn]; rfl) ha hb hcc hbx
  · have k := (chk_noS hf).resolve_left (by rw [hx]; decide)
    have hbx : (bothF f g).x = true := by unfold bothF; rw [hx, hy]; rfl
    exact (fchk_end (u := true) (by rw [hbx]; rfl) ha hb hcc (by unfold bothF; rw [orU_lf k]; exact s2 hy) hbx).trans rfl
  · have k := (chk_noS hg).resolve_left (by rw [hy]; decide)
    have hbx : (bothF f g).x = true := by unfold bothF; rw [hx, hy]; rfl
    exact (fchk_end (u := true) (by rw [hbx]; rfl) ha hb hcc (by unfold bothF; rw [orU_rt k]; exact s1 hx) hbx).trans rfl
  · have k : f.d = g.d ∧ f.e = g.e ∧ f.f = g.f := by simpa [hx, hy] using hc.2
    have hbx : (bothF f g).x = true := by unfold bothF; rw [hx, hy]; rfl
    exact (fchk_end (u := true) (by rw [hbx]; rfl) ha hb hcc (by unfold bothF; rw [orU_q k]; exact s1 hx) hbx).trans rfl
end Go.Proofs.Ytgfgfggoofjeeaa
