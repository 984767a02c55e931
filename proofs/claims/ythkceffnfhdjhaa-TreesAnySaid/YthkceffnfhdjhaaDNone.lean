/-
  WHAT TreesNone asks: odd, the maps without an order, the map whose function is no order; the boxes.
-/
import Derived.Test.YthkceffnfhdjhaaDKn
namespace Go.Proofs.Ythkceffnfhdjhaa
open Go.RowKit Go.Deep

abbrev oddF : Value := .func (.func 28) #[] #[]
theorem odd_any (x y : Int) (w : World) : Calls Try.prog 28 #[.int .i64 x, .int .i64 y] w fun e w' => e = .returned (.int .i64 1) ∧ w' = w := by
  go_enter Try.func28, Try.ntmps28
  go_wp2
  go_ret
  exact ⟨rfl, rfl⟩
theorem dOrd : DI.Ord 28 (fun _ _ => 1) := ⟨fun x y W => by kernel_rfl, odd_any⟩
/-- a map in what no order is asked for -/
structure WM (n : Nat) (W : World) (T : Tr Int) : Prop where
  lies : DI.Lies W T
  bal : T.Bal
  sz : T.sz ≤ n
theorem WM.below {n : Nat} {W W' : World} {T : Tr Int} (h : WM n W T) (hb : Below W.heap.size W W') : WM n W' T := ⟨h.lies.below hb, h.bal, h.sz⟩
theorem putT_len {c : Int → Int → Int} {T : Tr Int} {k v : Int} : (DI.putT c T k v).length ≤ T.sz + 1 := by
  unfold DI.putT
  split
  · rw [List.length_append, List.length_cons, List.length_take, List.length_drop, T.li_len]; omega
  · rw [List.length_set, T.li_len]; omega
theorem dropT_len {c : Int → Int → Int} {T : Tr Int} {k : Int} : (DI.dropT c T k).length ≤ T.sz := by
  unfold DI.dropT
  split
  · rw [T.li_len]; exact Nat.le_refl _
  · have := List.length_eraseIdx_le T.li (Tr.look c k T).1; rw [T.li_len] at this; exact this
section
variable {n : Nat} {W : World} {T : Tr Int}
theorem wput (k v : Int) (h : WM n W T) (hn : n ≤ 1000) : Calls Try.prog 10 #[.agg #[oddF, .pointer T.ad], .int .i64 k, .int .i64 v] W fun e w' => ∃ T', e = .returned (.agg #[oddF, .pointer T'.ad]) ∧ WM (n + 1) w' T' ∧ Below W.heap.size W w' :=
  (DI.put_any _ _ dOrd T k v W h.lies h.bal (by have := h.sz; omega)).mono fun _ _ ⟨T', he, hl, ⟨hb, hli⟩, hbel⟩ => ⟨T', he, ⟨hl, hb, by rw [← T'.li_len, hli]; have := putT_len (c := fun _ _ => 1) (T := T) (k := k) (v := v); have := h.sz; omega⟩, hbel⟩
theorem wdrop (k : Int) (h : WM n W T) (hn : n ≤ 1000) : Calls Try.prog 12 #[.agg #[oddF, .pointer T.ad], .int .i64 k] W fun e w' => ∃ T', e = .returned (.agg #[oddF, .pointer T'.ad]) ∧ WM n w' T' ∧ Below W.heap.size W w' :=
  (DI.drop_any _ _ dOrd T k W h.lies h.bal (by have := h.sz; omega)).mono fun _ _ ⟨T', he, hl, ⟨hb, hli⟩, hbel⟩ => ⟨T', he, ⟨hl, hb, by rw [← T'.li_len, hli]; have := dropT_len (c := fun _ _ => 1) (T := T) (k := k); have := h.sz; omega⟩, hbel⟩
theorem wget (k : Int) (h : WM n W T) (hn : n ≤ 1000) : Calls Try.prog 18 #[.agg #[oddF, .pointer T.ad], .int .i64 k] W fun e w' => (∃ v, e = .returned v) ∧ Below W.heap.size W w' :=
  (DI.get_any _ _ dOrd T k W h.lies (by have := h.sz; omega)).mono fun _ _ ⟨he, hb⟩ => ⟨⟨_, he⟩, hb⟩
theorem wrank (k : Int) (h : WM n W T) (hn : n ≤ 1000) : Calls Try.prog 19 #[.agg #[oddF, .pointer T.ad], .int .i64 k] W fun e w' => (∃ v, e = .returned v) ∧ Below W.heap.size W w' :=
  (DI.rank_any _ _ dOrd T k W h.lies (by have := h.sz; omega)).mono fun _ _ ⟨he, hb⟩ => ⟨⟨_, he⟩, hb⟩
theorem wat (i : Int) (h : WM n W T) (hn : n ≤ 1000) : Calls Try.prog 21 #[.agg #[oddF, .pointer T.ad], .int .i64 i] W fun e w' => (∃ v, e = .returned v) ∧ Below W.heap.size W w' := by
  by_cases h0 : i < 0
  · exact (DI.at_neg _ T i W h0).mono fun _ _ ⟨he, hb⟩ => ⟨⟨_, he⟩, hb⟩
  · by_cases h1 : (T.sz : Int) ≤ i
    · exact (DI.at_big _ T i W h.lies (by omega) h1).mono fun _ _ ⟨he, hb⟩ => ⟨⟨_, he⟩, hb⟩
    · obtain ⟨j, rfl⟩ : ∃ j : Nat, i = (j : Int) := ⟨i.toNat, by omega⟩
      have hj : j < T.li.length := by rw [T.li_len]; omega
      exact (DI.at_in _ T j T.li[j].1 T.li[j].2 W h.lies (by have := h.sz; omega) (by rw [List.getElem?_eq_getElem hj])).mono fun _ _ ⟨he, hb⟩ => ⟨⟨_, he⟩, hb⟩
theorem wrange (x y : Int) (h : WM n W T) (hn : n ≤ 1000) : Calls Try.prog 23 #[.agg #[oddF, .pointer T.ad], .int .i64 x, .int .i64 y] W fun e w' => (∃ v, e = .returned v) ∧ Below W.heap.size W w' :=
  (DI.range_any _ T x y W h.lies (by have := h.sz; omega)).mono fun _ _ ⟨_, he, _, hb⟩ => ⟨⟨_, he⟩, hb⟩
theorem wbetween (x y : Int) (h : WM n W T) (hn : n ≤ 1000) : Calls Try.prog 25 #[.agg #[oddF, .pointer T.ad], .int .i64 x, .int .i64 y] W fun e w' => (∃ v, e = .returned v) ∧ Below W.heap.size W w' :=
  (DI.between_any _ _ dOrd T x y W h.lies (by have := h.sz; omega)).mono fun _ _ ⟨_, he, _, hb⟩ => ⟨⟨_, he⟩, hb⟩
theorem wall (h : WM n W T) (hn : n ≤ 1000) : Calls Try.prog 26 #[.agg #[oddF, .pointer T.ad]] W fun e w' => (∃ v, e = .returned v) ∧ Below W.heap.size W w' :=
  (DI.all_any _ T W h.lies (by have := h.sz; omega)).mono fun _ _ ⟨_, he, _, hb⟩ => ⟨⟨_, he⟩, hb⟩
theorem wdepth (h : WM n W T) : Calls Try.prog 29 #[.agg #[oddF, .pointer T.ad]] W fun e w' => (∃ v, e = .returned v) ∧ Below W.heap.size W w' :=
  (DI.depth_any _ T W h.lies).mono fun _ _ ⟨he, hb⟩ => ⟨⟨_, he⟩, hb⟩
theorem at_nul (i : Int) (W : World) : Calls Try.prog 21 #[.agg #[.nilFunc, .pointer none], .int .i64 i] W fun e w' => e = .returned (.tuple #[.agg #[.int .i64 0, .int .i64 0], .int .i64 4]) ∧ Below W.heap.size W w' := by
  by_cases h : i < 0
  · exact DI.at_nul_neg i W h
  · exact DI.at_nul_big i W (by omega)
end
/-- the boxes of TreesNone -/
structure NS (w W : World) (b q0 q1 q2 : Nat) (z0 z1 : Int) (n : Nat) (T : Tr Int) : Prop where
  z : W.heap[b]? = some (.cells #[.int .i64 z0, .int .i64 z1] 42 (0, 0))
  b0 : BX .nilFunc W q0 .nil
  b1 : BX .nilFunc W q1 .nil
  b2 : BX oddF W q2 T
  map : WM n W T
  bel : Below w.heap.size w W
  w0 : w.heap.size ≤ q0
  w1 : w.heap.size ≤ q1
  w2 : w.heap.size ≤ q2
  n01 : q0 ≠ q1
  n02 : q0 ≠ q2
  n12 : q1 ≠ q2
section
variable {w W W' : World} {b q0 q1 q2 : Nat} {z0 z1 : Int} {n m : Nat} {T T' : Tr Int}
theorem NS.below (h : NS w W b q0 q1 q2 z0 z1 n T) (hb : Below W.heap.size W W') : NS w W' b q0 q1 q2 z0 z1 n T :=
  ⟨(hb.block b (Array.getElem?_eq_some_iff.1 h.z).1).trans h.z, h.b0.below hb, h.b1.below hb, h.b2.below hb, h.map.below hb, g_trans h.bel hb, h.w0, h.w1, h.w2, h.n01, h.n02, h.n12⟩
theorem z_st {F : Value} {q : Nat} {T1 T2 : Tr Int} (h : BX F W q T1) (hz : W.heap[b]? = some (.cells #[.int .i64 z0, .int .i64 z1] 42 (0, 0))) : (stB W q F T2).heap[b]? = some (.cells #[.int .i64 z0, .int .i64 z1] 42 (0, 0)) :=
  (DI.set_two h F (.pointer T2.ad)).2 b _ _ _ hz (by decide) (by decide)
theorem NS.st0 (h : NS w W b q0 q1 q2 z0 z1 n T) : NS w ((W.setCell ⟨q0, 0, none⟩ .nilFunc).setCell ⟨q0, 1, none⟩ (.pointer none)) b q0 q1 q2 z0 z1 n T :=
  ⟨z_st (T2 := .nil) h.b0 h.z, h.b0.st .nil, h.b1.st_ne h.n01.symm _ .nil, h.b2.st_ne h.n02.symm _ .nil, ⟨lies_st h.map.lies h.b0 .nil, h.map.bal, h.map.sz⟩, below_st h.bel h.w0 .nilFunc .nil, h.w0, h.w1, h.w2, h.n01, h.n02, h.n12⟩
theorem NS.st1 (h : NS w W b q0 q1 q2 z0 z1 n T) : NS w ((W.setCell ⟨q1, 0, none⟩ .nilFunc).setCell ⟨q1, 1, none⟩ (.pointer none)) b q0 q1 q2 z0 z1 n T :=
  ⟨z_st (T2 := .nil) h.b1 h.z, h.b0.st_ne h.n01 _ .nil, h.b1.st .nil, h.b2.st_ne h.n12.symm _ .nil, ⟨lies_st h.map.lies h.b1 .nil, h.map.bal, h.map.sz⟩, below_st h.bel h.w1 .nilFunc .nil, h.w0, h.w1, h.w2, h.n01, h.n02, h.n12⟩
theorem NS.st2 (h : NS w W b q0 q1 q2 z0 z1 n T) (hm : WM m W T') : NS w (stB W q2 oddF T') b q0 q1 q2 z0 z1 m T' :=
  ⟨z_st h.b2 h.z, h.b0.st_ne h.n02 _ _, h.b1.st_ne h.n12 _ _, h.b2.st T', ⟨lies_st hm.lies h.b2 T', hm.bal, hm.sz⟩, below_st h.bel h.w2 _ _, h.w0, h.w1, h.w2, h.n01, h.n02, h.n12⟩
theorem NS.cells (h : NS w W b q0 q1 q2 z0 z1 n T) : (W.cell? ⟨b, 0, none⟩ = some (.int .i64 z0) ∧ W.cell? ⟨b, 1, none⟩ = some (.int .i64 z1)) ∧ (W.cell? ⟨q0, 0, none⟩ = some .nilFunc ∧ W.cell? ⟨q0, 1, none⟩ = some (.pointer none)) ∧ (W.cell? ⟨q1, 0, none⟩ = some .nilFunc ∧ W.cell? ⟨q1, 1, none⟩ = some (.pointer none)) ∧ (W.cell? ⟨q2, 0, none⟩ = some oddF ∧ W.cell? ⟨q2, 1, none⟩ = some (.pointer T.ad)) :=
  ⟨⟨(DI.box_cell h.z 0).trans rfl, (DI.box_cell h.z 1).trans rfl⟩, ⟨h.b0.cells.1, h.b0.cells.2.1⟩, ⟨h.b1.cells.1, h.b1.cells.2.1⟩, ⟨h.b2.cells.1, h.b2.cells.2.1⟩⟩
theorem NS.frozen (h : NS w W b q0 q1 q2 z0 z1 n T) : (W.frozen? ⟨q0, 0, none⟩ = false ∧ W.frozen? ⟨q0, 1, none⟩ = false) ∧ (W.frozen? ⟨q1, 0, none⟩ = false ∧ W.frozen? ⟨q1, 1, none⟩ = false) ∧ (W.frozen? ⟨q2, 0, none⟩ = false ∧ W.frozen? ⟨q2, 1, none⟩ = false) :=
  ⟨h.b0.cells.2.2, h.b1.cells.2.2, h.b2.cells.2.2⟩
theorem ns_start {w w1 w2 : World} {z0 z1 : Int} (hb1 : Below ((w.alloc (.cells #[.int .i64 z0, .int .i64 z1] 42 (0, 0))).alloc (.cells #[.nilFunc, .pointer none] 26 (0, 0))).heap.size ((w.alloc (.cells #[.int .i64 z0, .int .i64 z1] 42 (0, 0))).alloc (.cells #[.nilFunc, .pointer none] 26 (0, 0))) w1) (hb2 : Below w1.heap.size w1 w2) :
    NS w ((w2.alloc (.cells #[.nilFunc, .pointer none] 26 (0, 0))).alloc (.cells #[oddF, .pointer none] 26 (0, 0))) w.heap.size (w.heap.size + 1) w2.heap.size (w2.heap.size + 1) z0 z1 0 .nil := by
  have hz : ((w.alloc (.cells #[.int .i64 z0, .int .i64 z1] 42 (0, 0))).alloc (.cells #[.nilFunc, .pointer none] 26 (0, 0))).heap[w.heap.size]? = some (.cells #[.int .i64 z0, .int .i64 z1] 42 (0, 0)) :=
    ((g_alloc (g_refl (a := w.alloc (.cells #[.int .i64 z0, .int .i64 z1] 42 (0, 0)))) (.cells #[.nilFunc, .pointer none] 26 (0, 0))).block w.heap.size (by simp)).trans (heap_alloc_new w _)
  have hq : ((w.alloc (.cells #[.int .i64 z0, .int .i64 z1] 42 (0, 0))).alloc (.cells #[.nilFunc, .pointer none] 26 (0, 0))).heap[w.heap.size + 1]? = some (.cells #[.nilFunc, .pointer none] 26 (0, 0)) := by
    have := heap_alloc_new (w.alloc (.cells #[.int .i64 z0, .int .i64 z1] 42 (0, 0))) (.cells #[.nilFunc, .pointer none] 26 (0, 0))
    simpa using this
  have hX : Below w.heap.size w ((w.alloc (.cells #[.int .i64 z0, .int .i64 z1] 42 (0, 0))).alloc (.cells #[.nilFunc, .pointer none] 26 (0, 0))) := g_alloc (g_alloc g_refl _) _
  have hs : ((w.alloc (.cells #[.int .i64 z0, .int .i64 z1] 42 (0, 0))).alloc (.cells #[.nilFunc, .pointer none] 26 (0, 0))).heap.size = w.heap.size + 2 := by simp
  generalize (w.alloc (.cells #[.int .i64 z0, .int .i64 z1] 42 (0, 0))).alloc (.cells #[.nilFunc, .pointer none] 26 (0, 0)) = X at *
  have hb := g_trans (g_trans hb1 hb2) (g_alloc (g_alloc (g_refl (a := w2)) (.cells #[.nilFunc, .pointer none] 26 (0, 0))) (.cells #[oddF, .pointer none] 26 (0, 0)))
  have h2 : X.heap.size ≤ w2.heap.size := (g_trans hb1 hb2).size
  refine ⟨(hb.block _ (by omega)).trans hz, (hb.block _ (by omega)).trans hq, ?_, ?_, ⟨trivial, trivial, Nat.le_refl _⟩, g_trans hX hb, by omega, by omega, by omega, by omega, by omega, by omega⟩
  · exact (bx_new w2 .nilFunc .nil).below (g_alloc g_refl _)
  · have := bx_new (w2.alloc (.cells #[.nilFunc, .pointer none] 26 (0, 0))) oddF .nil
    have e : (w2.alloc (.cells #[.nilFunc, .pointer none] 26 (0, 0))).heap.size = w2.heap.size + 1 := by simp
    rw [e] at this; exact this
theorem all0 (W : World) : Calls Try.prog 26 #[.agg #[.nilFunc, .pointer none]] W fun e w' => (∃ A, e = .returned (.slice A 0 0)) ∧ Below W.heap.size W w' :=
  (DI.all_nul_any W).mono fun _ _ ⟨A, he, _, hb⟩ => ⟨⟨A, he⟩, hb⟩
theorem range0 (x y : Int) (W : World) : Calls Try.prog 23 #[.agg #[.nilFunc, .pointer none], .int .i64 x, .int .i64 y] W fun e w' => (∃ A, e = .returned (.slice A 0 0)) ∧ Below W.heap.size W w' :=
  (DI.range_nul x y W).mono fun _ _ ⟨A, he, _, hb⟩ => ⟨⟨A, he⟩, hb⟩
theorem between0 (x y : Int) (W : World) : Calls Try.prog 25 #[.agg #[.nilFunc, .pointer none], .int .i64 x, .int .i64 y] W fun e w' => (∃ A, e = .returned (.slice A 0 0)) ∧ Below W.heap.size W w' :=
  (DI.between_nul_any x y W).mono fun _ _ ⟨A, he, _, hb⟩ => ⟨⟨A, he⟩, hb⟩
theorem keep6 {a a' : World} {p q r : Nat} {u v x y s t : Value} (h : Below a.heap.size a a') (k : (a.cell? ⟨p, 0, none⟩ = some u ∧ a.cell? ⟨p, 1, none⟩ = some v) ∧ (a.cell? ⟨q, 0, none⟩ = some x ∧ a.cell? ⟨q, 1, none⟩ = some y) ∧ (a.cell? ⟨r, 0, none⟩ = some s ∧ a.cell? ⟨r, 1, none⟩ = some t)) :
    (a'.cell? ⟨p, 0, none⟩ = some u ∧ a'.cell? ⟨p, 1, none⟩ = some v) ∧ (a'.cell? ⟨q, 0, none⟩ = some x ∧ a'.cell? ⟨q, 1, none⟩ = some y) ∧ (a'.cell? ⟨r, 0, none⟩ = some s ∧ a'.cell? ⟨r, 1, none⟩ = some t) :=
  ⟨⟨keep5 h k.1.1, keep5 h k.1.2⟩, ⟨keep5 h k.2.1.1, keep5 h k.2.1.2⟩, ⟨keep5 h k.2.2.1, keep5 h k.2.2.2⟩⟩
end
end Go.Proofs.Ythkceffnfhdjhaa
