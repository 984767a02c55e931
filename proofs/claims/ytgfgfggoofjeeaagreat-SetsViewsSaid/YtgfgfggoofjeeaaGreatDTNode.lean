/-
  A TREE IN MEMORY (keys: tuples, no values); THE CONTRACTS of count, levels, tree.
-/
import Derived.Test.YtgfgfggoofjeeaaGreatRows
import Derived.WalkSpells
import Derived.WalkLawsBesides
import Derived.LoopTactic
import Derived.Outline
import Derived.IntWalk
import Derived.BigQuiet
import Derived.Deep.Quiet
import Derived.Deep.TreeCalls
import Derived.Test.YtgfgfggoofjeeaaGreatPlain
import Derived.Test.YtgfgfggoofjeeaaGreatDTMath
import Derived.Deep.RegionHeld3
namespace Go.Proofs.YtgfgfggoofjeeaaGreat.DT
open Go.RowKit Go.Deep

/-- a node's object -/
def obj (l : Tr) (k : Tup) (r : Tr) : Obj :=
  .cells #[.string k.a, .string k.b, .string k.c, .string k.d, .string k.e, .string k.f, .pointer l.ad, .pointer r.ad, .int .i64 ((l.sz + 1 + r.sz : Nat) : Int), .int .i64 ((max l.dp r.dp + 1 : Nat) : Int)] 117 (0, 0)
/-- the tree lies in w -/
def Lies (w : World) : Tr → Prop
  | .nil => True
  | .node b l k r => w.heap[b]? = some (obj l k r) ∧ Lies w l ∧ Lies w r
theorem Lies.below {w w' : World} (h : Below w.heap.size w w') : ∀ {T : Tr}, Lies w T → Lies w' T
  | .nil, _ => trivial
  | .node b _ _ _, ⟨h1, h2, h3⟩ => ⟨(h.block b (Array.getElem?_eq_some_iff.1 h1).1).trans h1, Lies.below h h2, Lies.below h h3⟩
/-- the cells of a node's block -/
def Six (w : World) (b : Nat) (l : Tr) (k : Tup) (r : Tr) : Prop :=
  w.cell? ⟨b, 0, none⟩ = some (.string k.a) ∧ w.cell? ⟨b, 1, none⟩ = some (.string k.b) ∧ w.cell? ⟨b, 2, none⟩ = some (.string k.c) ∧ w.cell? ⟨b, 3, none⟩ = some (.string k.d) ∧ w.cell? ⟨b, 4, none⟩ = some (.string k.e) ∧ w.cell? ⟨b, 5, none⟩ = some (.string k.f) ∧ w.cell? ⟨b, 6, none⟩ = some (.pointer l.ad) ∧ w.cell? ⟨b, 7, none⟩ = some (.pointer r.ad) ∧
    w.cell? ⟨b, 8, none⟩ = some (.int .i64 ((l.sz + 1 + r.sz : Nat) : Int)) ∧ w.cell? ⟨b, 9, none⟩ = some (.int .i64 ((max l.dp r.dp + 1 : Nat) : Int))
theorem Lies.six {w : World} {b : Nat} {l : Tr} {k : Tup} {r : Tr} (h : Lies w (.node b l k r)) : Six w b l k r := by
  have h1 := h.1
  unfold Six
  refine ⟨?_, ?_, ?_, ?_, ?_, ?_, ?_, ?_, ?_, ?_⟩ <;> simp [World.cell?, h1, obj]
theorem Lies.lt {w : World} {b : Nat} {l : Tr} {k : Tup} {r : Tr} (h : Lies w (.node b l k r)) : b < w.heap.size := (Array.getElem?_eq_some_iff.1 h.1).1
theorem Six.keep {w w' : World} {b : Nat} {l : Tr} {k : Tup} {r : Tr} (h : Below w.heap.size w w') (hb : b < w.heap.size) (s : Six w b l k r) : Six w' b l k r := by
  have e := (bcell h).1
  obtain ⟨s0, s1, s2, s3, s4, s5, s6, s7, s8, s9⟩ := s
  exact ⟨(e b 0 hb).trans s0, (e b 1 hb).trans s1, (e b 2 hb).trans s2, (e b 3 hb).trans s3, (e b 4 hb).trans s4, (e b 5 hb).trans s5, (e b 6 hb).trans s6, (e b 7 hb).trans s7, (e b 8 hb).trans s8, (e b 9 hb).trans s9⟩
theorem Lies.left {w : World} {b : Nat} {l : Tr} {k : Tup} {r : Tr} (h : Lies w (.node b l k r)) : Lies w l := h.2.1
theorem Lies.right {w : World} {b : Nat} {l : Tr} {k : Tup} {r : Tr} (h : Lies w (.node b l k r)) : Lies w r := h.2.2
theorem lies_nil (w : World) : Lies w .nil := trivial

set_option maxHeartbeats 400000 in
theorem count_any (T : Tr) (w : World) (h : Lies w T) :
    Calls Tryz.prog 69 #[.pointer T.ad] w fun e w' => e = .returned (.int .i64 (T.sz : Int)) ∧ w' = w := by
  cases T with
  | nil =>
    show Calls _ _ #[.pointer none] _ _
    go_enter Tryz.func69, Tryz.ntmps69
    go_wp2
    go_ret
    exact ⟨rfl, rfl⟩
  | node b l k r =>
    obtain ⟨-, -, -, -, -, -, -, -, s8, -⟩ := h.six
    clear h
    show Calls _ _ #[.pointer (some ⟨b, 0, none⟩)] _ _
    go_enter Tryz.func69, Tryz.ntmps69
    go_wp2
    go_ret
    exact ⟨rfl, rfl⟩
set_option maxHeartbeats 400000 in
theorem levels_any (T : Tr) (w : World) (h : Lies w T) :
    Calls Tryz.prog 96 #[.pointer T.ad] w fun e w' => e = .returned (.int .i64 (T.dp : Int)) ∧ w' = w := by
  cases T with
  | nil =>
    show Calls _ _ #[.pointer none] _ _
    go_enter Tryz.func96, Tryz.ntmps96
    go_wp2
    go_ret
    exact ⟨rfl, rfl⟩
  | node b l k r =>
    obtain ⟨-, -, -, -, -, -, -, -, -, s9⟩ := h.six
    clear h
    show Calls _ _ #[.pointer (some ⟨b, 0, none⟩)] _ _
    go_enter Tryz.func96, Tryz.ntmps96
    go_wp2
    go_ret
    exact ⟨rfl, rfl⟩

/-- what a call returns that makes a tree -/
def Gives (w : World) (p : Tr → Prop) (e : Ending) (w' : World) : Prop := ∃ T : Tr, e = .returned (.pointer T.ad) ∧ Lies w' T ∧ p T ∧ Below w.heap.size w w'

theorem box2 (w : World) (a b : Value) (t : TypeId) : (w.alloc (.cells #[a, b] t (0, 0))).drew.cell? ⟨w.heap.size, 0, none⟩ = some a ∧ (w.alloc (.cells #[a, b] t (0, 0))).drew.cell? ⟨w.heap.size, 1, none⟩ = some b := by
  constructor <;> go_simp
theorem keep2 {a b : World} {q : Nat} {x y : Value} (h : Below a.heap.size a b) (s : a.cell? ⟨q, 0, none⟩ = some x ∧ a.cell? ⟨q, 1, none⟩ = some y) : b.cell? ⟨q, 0, none⟩ = some x ∧ b.cell? ⟨q, 1, none⟩ = some y :=
  have hq : q < a.heap.size := World.block_lt_of_cell? _ _ s.1
  ⟨((bcell h).1 q 0 hq).trans s.1, ((bcell h).1 q 1 hq).trans s.2⟩
theorem box6 (w : World) (k : Tup) (t : TypeId) : (w.alloc (.cells #[.string k.a, .string k.b, .string k.c, .string k.d, .string k.e, .string k.f] t (0, 0))).drew.cell? ⟨w.heap.size, 0, none⟩ = some (.string k.a) ∧ (w.alloc (.cells #[.string k.a, .string k.b, .string k.c, .string k.d, .string k.e, .string k.f] t (0, 0))).drew.cell? ⟨w.heap.size, 1, none⟩ = some (.string k.b) ∧ (w.alloc (.cells #[.string k.a, .string k.b, .string k.c, .string k.d, .string k.e, .string k.f] t (0, 0))).drew.cell? ⟨w.heap.size, 2, none⟩ = some (.string k.c) ∧ (w.alloc (.cells #[.string k.a, .string k.b, .string k.c, .string k.d, .string k.e, .string k.f] t (0, 0))).drew.cell? ⟨w.heap.size, 3, none⟩ = some (.string k.d) ∧ (w.alloc (.cells #[.string k.a, .string k.b, .string k.c, .string k.d, .string k.e, .string k.f] t (0, 0))).drew.cell? ⟨w.heap.size, 4, none⟩ = some (.string k.e) ∧ (w.alloc (.cells #[.string k.a, .string k.b, .string k.c, .string k.d, .string k.e, .string k.f] t (0, 0))).drew.cell? ⟨w.heap.size, 5, none⟩ = some (.string k.f) := by
  refine ⟨?_, ?_, ?_, ?_, ?_, ?_⟩ <;> go_simp
theorem obj_eq (L R : Tr) (k : Tup) (a d : Int) (ha : a = (L.sz : Int) + 1 + (R.sz : Int)) (hd : d = max (L.dp : Int) (R.dp : Int) + 1) :
    Obj.cells #[.string k.a, .string k.b, .string k.c, .string k.d, .string k.e, .string k.f, .pointer L.ad, .pointer R.ad, .int .i64 a, .int .i64 d] 117 (0, 0) = obj L k R := by
  unfold obj
  rw [show ((L.sz + 1 + R.sz : Nat) : Int) = a by omega, show ((max L.dp R.dp + 1 : Nat) : Int) = d by omega]

theorem tree_fin {L R : Tr} {k : Tup} {w W1 : World} {q : Nat} {a d : Int} (hq : w.heap.size = q) (hb : Below q w W1) (hl : Lies w L) (hr : Lies w R) (ha : a = (L.sz : Int) + 1 + (R.sz : Int)) (hd : d = max (L.dp : Int) (R.dp : Int) + 1) :
    Gives w (fun T => ∃ b, T = .node b L k R) (.returned (.pointer (some ⟨W1.heap.size, 0, none⟩))) (W1.alloc (.cells #[.string k.a, .string k.b, .string k.c, .string k.d, .string k.e, .string k.f, .pointer L.ad, .pointer R.ad, .int .i64 a, .int .i64 d] 117 (0, 0))).drew := by
  subst hq
  have hB : Below w.heap.size w (W1.alloc (.cells #[.string k.a, .string k.b, .string k.c, .string k.d, .string k.e, .string k.f, .pointer L.ad, .pointer R.ad, .int .i64 a, .int .i64 d] 117 (0, 0))).drew := g_drew (g_alloc hb _)
  refine ⟨.node W1.heap.size L k R, rfl, ⟨?_, hl.below hB, hr.below hB⟩, ⟨_, rfl⟩, hB⟩
  rw [obj_eq L R k a d ha hd]
  show (W1.heap.push _)[W1.heap.size]? = _
  simp
theorem wrp {x : Int} (h : -9223372036854775808 ≤ x) (h2 : x < 9223372036854775808) : IntKind.i64.wrap x = x := by
  rw [IntKind.wrap_i64]; omega
theorem keep1 {a b : World} {q o : Nat} {x : Value} (h : Below a.heap.size a b) (s : a.cell? ⟨q, o, none⟩ = some x) : b.cell? ⟨q, o, none⟩ = some x :=
  ((bcell h).1 q o (World.block_lt_of_cell? _ _ s)).trans s

theorem keep6 {a b : World} {p0 p1 p2 p3 p4 p5 o0 o1 o2 o3 o4 o5 : Nat} {x0 x1 x2 x3 x4 x5 : Value} (h : Below a.heap.size a b)
    (s : a.cell? ⟨p0, o0, none⟩ = some x0 ∧ a.cell? ⟨p1, o1, none⟩ = some x1 ∧ a.cell? ⟨p2, o2, none⟩ = some x2 ∧ a.cell? ⟨p3, o3, none⟩ = some x3 ∧ a.cell? ⟨p4, o4, none⟩ = some x4 ∧ a.cell? ⟨p5, o5, none⟩ = some x5) :
    b.cell? ⟨p0, o0, none⟩ = some x0 ∧ b.cell? ⟨p1, o1, none⟩ = some x1 ∧ b.cell? ⟨p2, o2, none⟩ = some x2 ∧ b.cell? ⟨p3, o3, none⟩ = some x3 ∧ b.cell? ⟨p4, o4, none⟩ = some x4 ∧ b.cell? ⟨p5, o5, none⟩ = some x5 :=
  ⟨keep1 h s.1, keep1 h s.2.1, keep1 h s.2.2.1, keep1 h s.2.2.2.1, keep1 h s.2.2.2.2.1, keep1 h s.2.2.2.2.2⟩

set_option maxHeartbeats 1000000 in
theorem tree_any (L R : Tr) (k : Tup) (w : World) (hl : Lies w L) (hr : Lies w R) (hs : L.sz + R.sz ≤ 10000000) :
    Calls Tryz.prog 88 #[.pointer L.ad, .agg #[.string k.a, .string k.b, .string k.c, .string k.d, .string k.e, .string k.f], .pointer R.ad] w (Gives w fun T => ∃ b, T = .node b L k R) := by
  have HL : Hid (Lies (w.alloc (.cells #[.string k.a, .string k.b, .string k.c, .string k.d, .string k.e, .string k.f] 86)).drew L) := hid (hl.below (g_drew (g_alloc g_refl _)))
  have HR : Hid (Lies (w.alloc (.cells #[.string k.a, .string k.b, .string k.c, .string k.d, .string k.e, .string k.f] 86)).drew R) := hid (hr.below (g_drew (g_alloc g_refl _)))
  have HL0 := hid hl
  have HR0 := hid hr
  have d1 := L.dp_sz
  have d2 := R.dp_sz
  clear hl hr
  have q1 : (0 : Int) ≤ (L.sz : Int) := by omega
  have q2 : (0 : Int) ≤ (R.sz : Int) := by omega
  have q3 : (L.sz : Int) + (R.sz : Int) ≤ 10000000 := by omega
  have q4 : (0 : Int) ≤ (L.dp : Int) := by omega
  have q5 : (0 : Int) ≤ (R.dp : Int) := by omega
  have q6 : (L.dp : Int) ≤ 10000000 := by omega
  have q7 : (R.dp : Int) ≤ 10000000 := by omega
  clear hs d1 d2
  go_enter Tryz.func88, Tryz.ntmps88
  go_wp2_with fail
  have hS := box6 w k 86
  have HB : Hid (Below w.heap.size w (w.alloc (.cells #[.string k.a, .string k.b, .string k.c, .string k.d, .string k.e, .string k.f] 86))) := hid (g_alloc g_refl _)
  generalize hW : (w.alloc (.cells #[.string k.a, .string k.b, .string k.c, .string k.d, .string k.e, .string k.f] 86)) = W1 at *
  generalize hq : w.heap.size = q at *
  have HS0 : Hid (W1.cell? ⟨q, 0, none⟩ = some (.string k.a) ∧ W1.cell? ⟨q, 1, none⟩ = some (.string k.b) ∧ W1.cell? ⟨q, 2, none⟩ = some (.string k.c) ∧ W1.cell? ⟨q, 3, none⟩ = some (.string k.d) ∧ W1.cell? ⟨q, 4, none⟩ = some (.string k.e) ∧ W1.cell? ⟨q, 5, none⟩ = some (.string k.f)) := hid hS
  have HE := hid hq
  clear hW hq
  go_region_held3 (fun w' => w'.cell? ⟨q, 0, none⟩ = some (.string k.a) ∧ w'.cell? ⟨q, 1, none⟩ = some (.string k.b) ∧ w'.cell? ⟨q, 2, none⟩ = some (.string k.c) ∧ w'.cell? ⟨q, 3, none⟩ = some (.string k.d) ∧ w'.cell? ⟨q, 4, none⟩ = some (.string k.e) ∧ w'.cell? ⟨q, 5, none⟩ = some (.string k.f)) (first | with_reducible assumption | exact keep6 (g_drew (g_alloc g_refl _)) HS0.out)
    (first | (go_at_call_of 69 L; (with_reducible refine Calls.mono (count_any L _ HL.out) ?_); rintro _ _ ⟨rfl, rfl⟩) | (go_at_call_of 69 R; (with_reducible refine Calls.mono (count_any R _ HR.out) ?_); rintro _ _ ⟨rfl, rfl⟩) | (go_at_call_of 96 L; (with_reducible refine Calls.mono (levels_any L _ HL.out) ?_); rintro _ _ ⟨rfl, rfl⟩) | (go_at_call_of 96 R; (with_reducible refine Calls.mono (levels_any R _ HR.out) ?_); rintro _ _ ⟨rfl, rfl⟩))
  all_goals go_wp2
  all_goals go_ret
  all_goals
    rw [wrp (x := (L.sz : Int) + 1) (by omega) (by omega), wrp (x := (L.sz : Int) + 1 + (R.sz : Int)) (by omega) (by omega)]
    first | rw [wrp (x := (R.dp : Int) + 1) (by omega) (by omega)] | rw [wrp (x := (L.dp : Int) + 1) (by omega) (by omega)] | rw [wrp (x := max (L.dp : Int) (R.dp : Int) + 1) (by omega) (by omega)]
    exact tree_fin HE.out HB.out HL0.out HR0.out rfl (by omega)
end Go.Proofs.YtgfgfggoofjeeaaGreat.DT
