/-
  THE CONTRACTS of New, Len, Rank, Get, At, Put, Drop (keys: tuples, no values).
-/
import Derived.Laws.EntriesVeiled
import Derived.Test.YtgfgfggoofjeeaaGreatDTFind
import Derived.Test.YtgfgfggoofjeeaaGreatDTRem
namespace Go.Proofs.YtgfgfggoofjeeaaGreat.DT
open Go.RowKit Go.Deep
theorem ad_nil : (Tr.nil : Tr).ad = none := rfl
theorem ad_node {b : Nat} {l r : Tr} {k : Tup} : (Tr.node b l k r).ad = some ⟨b, 0, none⟩ := rfl
theorem fold0 (f : Array Value → Value × Nat → Array Value) (a : Array Value) : Array.foldl f a ((#[] : Array Value).zipIdx) 0 0 = a := by first | rfl | (rw [show ((#[] : Array Value).zipIdx) = #[] from rfl]; rfl)
attribute [local go_sem] ad_nil ad_node

/-- all but blocks of two types are as they were -/
def Bod (e : TypeId) (w w' : World) : Prop := w.heap.size ≤ w'.heap.size ∧ ∀ (b : Nat) (arr : Array Value) (t : TypeId) (z : Nat × Nat), w.heap[b]? = some (.cells arr t z) → t ≠ e → w'.heap[b]? = some (.cells arr t z)
theorem Bod.trans {e : TypeId} {a b c : World} (h : Bod e a b) (k : Bod e b c) : Bod e a c :=
  ⟨Nat.le_trans h.1 k.1, fun g arr t z hb n => k.2 g arr t z (h.2 g arr t z hb n) n⟩
theorem Lies.bod {w w' : World} {e : TypeId} (h : Bod e w w') (n1 : 117 ≠ e) : ∀ {T : Tr}, Lies w T → Lies w' T
  | .nil, _ => trivial
  | .node _ _ _ _, ⟨h1, h2, h3⟩ => ⟨h.2 _ _ _ _ h1 n1, Lies.bod h n1 h2, Lies.bod h n1 h3⟩
theorem Bod.set {w : World} {g o : Nat} {e : TypeId} {arr : Array Value} (h : w.heap[g]? = some (.cells arr e (0, 0))) (v : Value) : Bod e w (w.setCell ⟨g, o, none⟩ v) := by
  refine ⟨by simp, fun b a t z hb n1 => ?_⟩
  have hne : b ≠ g := fun he => by rw [he, h] at hb; injection hb with hb; injection hb with _ hb _; exact n1 hb.symm
  exact (heap_setCell_other w ⟨g, o, none⟩ b v hne).trans hb
theorem set_two {w : World} {g : Nat} {e : TypeId} {x y : Value} (h : w.heap[g]? = some (.cells #[x, y] e (0, 0))) (u v : Value) :
    Bod e w ((w.setCell ⟨g, 0, none⟩ u).setCell ⟨g, 1, none⟩ v) := by
  have h1 := Bod.set (o := 0) h u
  have h2 : (w.setCell ⟨g, 0, none⟩ u).heap[g]? = some (.cells (#[x, y].setIfInBounds 0 u) e (0, 0)) := heap_setCell_same w g 0 _ e u h
  exact h1.trans (Bod.set (o := 1) h2 v)
theorem box_frozen {w : World} {b : Nat} {t : TypeId} {arr : Array Value} (h : w.heap[b]? = some (.cells arr t (0, 0))) (i : Nat) : w.frozen? ⟨b, i, none⟩ = false := by
  simp [World.frozen?, h]
theorem box_cell {w : World} {b : Nat} {t : TypeId} {arr : Array Value} (h : w.heap[b]? = some (.cells arr t (0, 0))) (i : Nat) : w.cell? ⟨b, i, none⟩ = arr[i]? := by
  simp [World.cell?, h]
/-- a result's block with two cells, behind a call -/
theorem res2 {a b : World} {g : Nat} {t : TypeId} {x y : Value} (h : a.heap[g]? = some (.cells #[x, y] t (0, 0))) (k : Below a.heap.size a b) :
    b.heap[g]? = some (.cells #[x, y] t (0, 0)) ∧ b.cell? ⟨g, 0, none⟩ = some x ∧ b.cell? ⟨g, 1, none⟩ = some y ∧ b.frozen? ⟨g, 0, none⟩ = false ∧ b.frozen? ⟨g, 1, none⟩ = false := by
  have e := (k.block g (Array.getElem?_eq_some_iff.1 h).1).trans h
  exact ⟨e, (box_cell e 0).trans rfl, (box_cell e 1).trans rfl, box_frozen e 0, box_frozen e 1⟩
theorem res6 {a b : World} {g : Nat} {t : TypeId} {x0 x1 x2 x3 x4 x5 : Value} (h : a.heap[g]? = some (.cells #[x0, x1, x2, x3, x4, x5] t (0, 0))) (k : Below a.heap.size a b) :
    (b.frozen? ⟨g, 0, none⟩ = false ∧ b.frozen? ⟨g, 1, none⟩ = false ∧ b.frozen? ⟨g, 2, none⟩ = false ∧ b.frozen? ⟨g, 3, none⟩ = false ∧ b.frozen? ⟨g, 4, none⟩ = false ∧ b.frozen? ⟨g, 5, none⟩ = false) ∧
    (b.cell? ⟨g, 0, none⟩ = some x0 ∧ b.cell? ⟨g, 1, none⟩ = some x1 ∧ b.cell? ⟨g, 2, none⟩ = some x2 ∧ b.cell? ⟨g, 3, none⟩ = some x3 ∧ b.cell? ⟨g, 4, none⟩ = some x4 ∧ b.cell? ⟨g, 5, none⟩ = some x5) := by
  have e := (k.block g (Array.getElem?_eq_some_iff.1 h).1).trans h
  exact ⟨⟨box_frozen e 0, box_frozen e 1, box_frozen e 2, box_frozen e 3, box_frozen e 4, box_frozen e 5⟩, ⟨(box_cell e 0).trans rfl, (box_cell e 1).trans rfl, (box_cell e 2).trans rfl, (box_cell e 3).trans rfl, (box_cell e 4).trans rfl, (box_cell e 5).trans rfl⟩⟩
theorem set_c {W : World} {p b o c : Nat} {u x : Value} (h : ¬ b = p) (k : W.cell? ⟨b, o, none⟩ = some x) : (W.setCell ⟨p, c, none⟩ u).cell? ⟨b, o, none⟩ = some x :=
  (World.cell?_setCell_other W _ _ u (fun e => by injection e with e; exact h e.symm)).trans k
theorem set_cc {W : World} {p b o : Nat} {u v x : Value} (h : ¬ b = p) (k : W.cell? ⟨b, o, none⟩ = some x) : ((W.setCell ⟨p, 0, none⟩ u).setCell ⟨p, 1, none⟩ v).cell? ⟨b, o, none⟩ = some x := set_c h (set_c h k)
theorem set_s8 {W : World} {p q : Nat} {u v x y : Value} {k : Tup} (h1 : ¬ q = p) (h2 : ¬ q + 1 = p) (s : W.cell? ⟨q, 0, none⟩ = some x ∧ W.cell? ⟨q, 1, none⟩ = some y ∧ W.cell? ⟨q + 1, 0, none⟩ = some (.string k.a) ∧ W.cell? ⟨q + 1, 1, none⟩ = some (.string k.b) ∧ W.cell? ⟨q + 1, 2, none⟩ = some (.string k.c) ∧ W.cell? ⟨q + 1, 3, none⟩ = some (.string k.d) ∧ W.cell? ⟨q + 1, 4, none⟩ = some (.string k.e) ∧ W.cell? ⟨q + 1, 5, none⟩ = some (.string k.f)) :
    ((W.setCell ⟨p, 0, none⟩ u).setCell ⟨p, 1, none⟩ v).cell? ⟨q, 0, none⟩ = some x ∧ ((W.setCell ⟨p, 0, none⟩ u).setCell ⟨p, 1, none⟩ v).cell? ⟨q, 1, none⟩ = some y ∧ ((W.setCell ⟨p, 0, none⟩ u).setCell ⟨p, 1, none⟩ v).cell? ⟨q + 1, 0, none⟩ = some (.string k.a) ∧ ((W.setCell ⟨p, 0, none⟩ u).setCell ⟨p, 1, none⟩ v).cell? ⟨q + 1, 1, none⟩ = some (.string k.b) ∧ ((W.setCell ⟨p, 0, none⟩ u).setCell ⟨p, 1, none⟩ v).cell? ⟨q + 1, 2, none⟩ = some (.string k.c) ∧ ((W.setCell ⟨p, 0, none⟩ u).setCell ⟨p, 1, none⟩ v).cell? ⟨q + 1, 3, none⟩ = some (.string k.d) ∧ ((W.setCell ⟨p, 0, none⟩ u).setCell ⟨p, 1, none⟩ v).cell? ⟨q + 1, 4, none⟩ = some (.string k.e) ∧ ((W.setCell ⟨p, 0, none⟩ u).setCell ⟨p, 1, none⟩ v).cell? ⟨q + 1, 5, none⟩ = some (.string k.f) := by
  obtain ⟨a0, a1, b0, b1, b2, b3, b4, b5⟩ := s
  exact ⟨set_cc h1 a0, set_cc h1 a1, set_cc h2 b0, set_cc h2 b1, set_cc h2 b2, set_cc h2 b3, set_cc h2 b4, set_cc h2 b5⟩
theorem new_at (w : World) (o : Obj) : (w.alloc o).heap[w.heap.size]? = some o := by
  show (w.heap.push o)[w.heap.size]? = _
  simp
theorem new_old {w : World} {g : Nat} {o x : Obj} (h : w.heap[g]? = some x) : (w.alloc o).heap[g]? = some x := by
  have hl := (Array.getElem?_eq_some_iff.1 h).1
  show (w.heap.push o)[g]? = _
  rw [Array.getElem?_push, if_neg (by omega)]; exact h
/-- a map, a key, and a result, each in a block of its own -/
def tM : TypeId := 36
def tK : TypeId := 48
theorem nil_ne (W : World) : (Go.binOp BinOp.eql 33 (.func (.func 50) #[] #[]) .nilFunc).run Tryz.prog W = .ok (.bool false) W := by kernel_rfl

set_option maxRecDepth 20000 in
set_option maxHeartbeats 2000000 in
theorem new_any (w : World) :
    Calls Tryz.prog 49 #[.func (.func 50) #[] #[]] w fun e w' => e = .returned (.agg #[fv, .pointer none]) ∧ Below w.heap.size w w' := by
  go_enter Tryz.func49, Tryz.ntmps49
  go_wp2
  refine bodyPost_ret (v := .agg #[.func (.func 50) #[] #[], .pointer none]) ?_ rfl ?_
  · simp [results, Tryz.results49, go_sem]
  · exact ⟨rfl, g_alloc g_refl _⟩
theorem len_any (ov : Value) (T : Tr) (w : World) (hT : Lies w T) :
    Calls Tryz.prog 44 #[.agg #[ov, .pointer T.ad]] w fun e w' =>
      e = .returned (.int .i64 (T.sz : Nat)) ∧ Below w.heap.size w w' := by
  have HT := hid (hT.below (g_alloc (g_refl (a := w)) (.cells #[ov, .pointer T.ad] 36 (0, 0))))
  clear hT
  go_enter Tryz.func44, Tryz.ntmps44
  go_wp2_with fail
  refine (count_any T _ HT.out).mono ?_
  rintro _ _ ⟨rfl, rfl⟩
  go_wp2
  go_ret
  exact ⟨rfl, g_alloc g_refl _⟩
set_option maxRecDepth 20000 in
set_option maxHeartbeats 2000000 in
theorem rank_any (ov : Value) (T : Tr) (hv : OV ov T) (k : Tup) (w : World) (hT : Lies w T) (hs : T.sz ≤ 1000000) :
    Calls Tryz.prog 57 #[.agg #[ov, .pointer T.ad], .agg #[.string k.a, .string k.b, .string k.c, .string k.d, .string k.e, .string k.f]] w fun e w' => e = .returned (.int .i64 ((Tr.look k T).1 : Nat)) ∧ Below w.heap.size w w' := by
  have hA : Below w.heap.size w ((w.alloc (.cells #[ov, .pointer T.ad] 36 (0, 0))).alloc (.cells #[.string k.a, .string k.b, .string k.c, .string k.d, .string k.e, .string k.f] 48 (0, 0))) := g_alloc (g_alloc g_refl _) _
  have HA := hid hA
  have HT := hid (hT.below hA)
  have HF := hid (find_any ov T hv k _ HT.out hs)
  clear hT hA hs hv
  go_enter Tryz.func57, Tryz.ntmps57
  go_wp2_with fail
  refine HF.out.mono ?_
  rintro _ w1 ⟨rfl, hb1, hl1⟩
  go_wp2
  go_ret
  exact ⟨rfl, g_trans HA.out hb1⟩
/-- the address of the field of no size -/
theorem part_any {w : World} {b : Nat} {l r : Tr} {k : Tup} (h : w.heap[b]? = some (obj l k r)) : (partAt ⟨b, 0, none⟩ 6 96).run Tryz.prog w = .ok ⟨b, 6, some 96⟩ w := by
  have e1 : byteOfCell Tryz.prog Tryz.prog.depth 117 0 = some 0 := by kernel_rfl
  have e2 : byteOfCell Tryz.prog Tryz.prog.depth 117 6 = some 104 := by kernel_rfl
  have e3 : Tryz.prog.cellsOf 117 = 10 := by kernel_rfl
  simp only [obj] at h
  unfold partAt byteOf noView viewAt
  have hsh : w.shape? b = some (117, 10) := by simp [World.shape?, h]
  go_simp
/-- is there a node -/
def Tr.some : Tr → Bool
  | .nil => false
  | .node _ _ _ _ => true
set_option maxRecDepth 20000 in
set_option maxHeartbeats 2000000 in
theorem get_any (ov : Value) (T : Tr) (hv : OV ov T) (k : Tup) (w : World) (hT : Lies w T) (hs : T.sz ≤ 1000000) :
    Calls Tryz.prog 41 #[.agg #[ov, .pointer T.ad], .agg #[.string k.a, .string k.b, .string k.c, .string k.d, .string k.e, .string k.f]] w fun e w' => e = .returned (.tuple #[.agg #[], .bool (Tr.look k T).2.some]) ∧ Below w.heap.size w w' := by
  have hA : Below w.heap.size w (((w.alloc (.cells #[ov, .pointer T.ad] 36 (0, 0))).alloc (.cells #[.string k.a, .string k.b, .string k.c, .string k.d, .string k.e, .string k.f] 48 (0, 0))).alloc (.cells #[] 84 (0, 0))) := g_alloc (g_alloc (g_alloc g_refl _) _) _
  have HA := hid hA
  have HT := hid (hT.below hA)
  have HF := hid (find_any ov T hv k _ HT.out hs)
  generalize hN : (Tr.look k T).2 = N at *
  clear hT hA hs hN hv
  cases N with
  | nil =>
    go_enter Tryz.func41, Tryz.ntmps41
    go_wp2_with fail
    refine HF.out.mono ?_
    rintro _ w1 ⟨rfl, hb1, hl1⟩
    clear hl1
    go_wp2
    refine bodyPost_ret (v := .tuple #[.agg #[], .bool false]) ?_ rfl ?_
    · simp [results, Tryz.results41, go_sem]
    · exact ⟨rfl, g_alloc (g_trans HA.out hb1) _⟩
  | node b l k0 r =>
    go_enter Tryz.func41, Tryz.ntmps41
    go_wp2_with fail
    refine HF.out.mono ?_
    rintro _ w1 ⟨rfl, hb1, hl1⟩
    have hp := part_any hl1.1
    clear hl1
    go_wp2
    refine bodyPost_ret (v := .tuple #[.agg #[], .bool true]) ?_ rfl ?_
    · simp [results, Tryz.results41, go_sem]
    · exact ⟨rfl, g_trans HA.out hb1⟩
def GivesM (w : World) (p : Tr → Prop) (e : Ending) (w' : World) : Prop := ∃ T : Tr, e = .returned (.agg #[fv, .pointer T.ad]) ∧ Lies w' T ∧ p T ∧ Below w.heap.size w w'
set_option maxRecDepth 20000 in
set_option maxHeartbeats 2000000 in
theorem at_in (ov : Value) (T : Tr) (i : Nat) (k : Tup) (w : World) (hT : Lies w T) (hs : T.sz ≤ 1000000) (hi : T.li[i]? = some k) :
    Calls Tryz.prog 34 #[.agg #[ov, .pointer T.ad], .int .i64 (i : Nat)] w fun e w' => e = .returned (.tuple #[.agg #[.string k.a, .string k.b, .string k.c, .string k.d, .string k.e, .string k.f], .int .i64 0]) ∧ Below w.heap.size w w' := by
  have hlt : i < T.sz := by rw [← T.li_len]; exact (List.getElem?_eq_some_iff.1 hi).1
  have n0 : decide ((i : Int) < 0) = false := by simp
  have n1 : (i : Int) < (T.sz : Int) := by omega
  have hA1 : Below w.heap.size w (w.alloc (.cells #[ov, .pointer T.ad] 36 (0, 0))) := g_alloc g_refl _
  have hA2 : Below w.heap.size w ((w.alloc (.cells #[ov, .pointer T.ad] 36 (0, 0))).alloc (.cells #[.string ⟨#[]⟩, .string ⟨#[]⟩, .string ⟨#[]⟩, .string ⟨#[]⟩, .string ⟨#[]⟩, .string ⟨#[]⟩] 86 (0, 0))) := g_alloc hA1 _
  have HA2 := hid hA2
  have HT2 := hid (hT.below hA2)
  have HLN := hid (fun W (h : Lies W T) => len_any ov T W h)
  have HAT := hid (fun W (h : Lies W T) => at_any T i k W h hs hi)
  have HBP := hid (keep2 (g_alloc (g_refl (a := w.alloc (.cells #[ov, .pointer T.ad] 36 (0, 0)))) (.cells #[.string ⟨#[]⟩, .string ⟨#[]⟩, .string ⟨#[]⟩, .string ⟨#[]⟩, .string ⟨#[]⟩, .string ⟨#[]⟩] 86 (0, 0))) (box2p w ov (.pointer T.ad) 36))
  clear hT hA1 hA2 hs hi hlt
  go_enter Tryz.func34, Tryz.ntmps34
  go_wp2_with fail
  refine (HLN.out _ HT2.out).mono ?_
  rintro _ w1 ⟨rfl, hb1⟩
  have HB1 := hid (g_trans HA2.out hb1)
  obtain ⟨k0, k1⟩ := keep2 hb1 HBP.out
  have HT3 := hid (HT2.out.below hb1)
  have h0 : ((w.alloc (.cells #[ov, .pointer T.ad] 36 (0, 0))).alloc (.cells #[.string ⟨#[]⟩, .string ⟨#[]⟩, .string ⟨#[]⟩, .string ⟨#[]⟩, .string ⟨#[]⟩, .string ⟨#[]⟩] 86 (0, 0))).heap[w.heap.size + 1]? = some (.cells #[.string ⟨#[]⟩, .string ⟨#[]⟩, .string ⟨#[]⟩, .string ⟨#[]⟩, .string ⟨#[]⟩, .string ⟨#[]⟩] 86 (0, 0)) := by
    have q := new_at (w.alloc (.cells #[ov, .pointer T.ad] 36 (0, 0))) (.cells #[.string ⟨#[]⟩, .string ⟨#[]⟩, .string ⟨#[]⟩, .string ⟨#[]⟩, .string ⟨#[]⟩, .string ⟨#[]⟩] 86 (0, 0))
    rwa [show (w.alloc (.cells #[ov, .pointer T.ad] 36 (0, 0))).heap.size = w.heap.size + 1 by simp] at q
  have HR := hid ((hb1.block _ (Array.getElem?_eq_some_iff.1 h0).1).trans h0)
  clear hb1 h0 HBP HT2
  go_wp2_with fail
  refine (HAT.out _ HT3.out).mono ?_
  rintro _ w2 ⟨rfl, hb2⟩
  have HB2 := hid (g_trans HB1.out hb2)
  obtain ⟨⟨f0, f1, f2, f3, f4, f5⟩, ⟨c0, c1, c2, c3, c4, c5⟩⟩ := res6 HR.out hb2
  clear hb2 k0 k1
  go_wp2
  refine bodyPost_ret (v := .tuple #[.agg #[.string k.a, .string k.b, .string k.c, .string k.d, .string k.e, .string k.f], .int .i64 0]) ?_ rfl ?_
  · simp [results, Tryz.results34, go_sem, *]
  · exact ⟨rfl, g_set (g_set (g_set (g_set (g_set (g_set HB2.out (Nat.le_succ _) _) (Nat.le_succ _) _) (Nat.le_succ _) _) (Nat.le_succ _) _) (Nat.le_succ _) _) (Nat.le_succ _) _⟩

/-- what a world holds that begins Put -/
theorem put_world (w : World) (p : Option Addr) (k : Tup) (W : World) (hW : W = (((w.alloc (.cells #[.func (.func 50) #[] #[], .pointer p] 36 (0, 0))).alloc (.cells #[.string k.a, .string k.b, .string k.c, .string k.d, .string k.e, .string k.f] 48 (0, 0))).alloc (.cells #[] 84 (0, 0))).alloc (.cells #[.nilFunc, .pointer none] 36 (0, 0))) :
    Below w.heap.size w W ∧ (W.cell? ⟨w.heap.size, 0, none⟩ = some (.func (.func 50) #[] #[]) ∧ W.cell? ⟨w.heap.size, 1, none⟩ = some (.pointer p)) ∧ (W.cell? ⟨w.heap.size + 1, 0, none⟩ = some (.string k.a) ∧ W.cell? ⟨w.heap.size + 1, 1, none⟩ = some (.string k.b) ∧ W.cell? ⟨w.heap.size + 1, 2, none⟩ = some (.string k.c) ∧ W.cell? ⟨w.heap.size + 1, 3, none⟩ = some (.string k.d) ∧ W.cell? ⟨w.heap.size + 1, 4, none⟩ = some (.string k.e) ∧ W.cell? ⟨w.heap.size + 1, 5, none⟩ = some (.string k.f)) ∧ W.heap[w.heap.size + 1 + 1 + 1]? = some (.cells #[.nilFunc, .pointer none] 36 (0, 0)) ∧ W.heap.size = w.heap.size + 1 + 1 + 1 + 1 := by
  obtain ⟨w1, h1⟩ : ∃ w1, w.alloc (.cells #[.func (.func 50) #[] #[], .pointer p] 36 (0, 0)) = w1 := ⟨_, rfl⟩
  obtain ⟨w2, h2⟩ : ∃ w2, w1.alloc (.cells #[.string k.a, .string k.b, .string k.c, .string k.d, .string k.e, .string k.f] 48 (0, 0)) = w2 := ⟨_, rfl⟩
  obtain ⟨w3, h3⟩ : ∃ w3, w2.alloc (.cells #[] 84 (0, 0)) = w3 := ⟨_, rfl⟩
  have s1 : w1.heap.size = w.heap.size + 1 := by rw [← h1]; simp
  have s2 : w2.heap.size = w.heap.size + 1 + 1 := by rw [← h2, ← s1]; simp
  have s3 : w3.heap.size = w.heap.size + 1 + 1 + 1 := by rw [← h3, ← s2]; simp
  have b1 : Below w.heap.size w w1 := by rw [← h1]; exact g_alloc g_refl _
  have b2 : Below w1.heap.size w1 w2 := by rw [← h2]; exact g_alloc g_refl _
  have b3 : Below w2.heap.size w2 w3 := by rw [← h3]; exact g_alloc g_refl _
  have m := box2p w (.func (.func 50) #[] #[]) (.pointer p) 36
  rw [h1] at m
  have n := box6p w1 k 48
  rw [h2, s1] at n
  rw [h1, h2, h3] at hW
  have b4 : Below w3.heap.size w3 W := by rw [hW]; exact g_alloc g_refl _
  have r := new_at w3 (.cells #[.nilFunc, .pointer none] 36 (0, 0))
  rw [← hW, s3] at r
  exact ⟨g_trans (g_trans (g_trans b1 b2) b3) b4, keep2 (g_trans (g_trans b2 b3) b4) m, keep6 (g_trans b3 b4) n, r, by rw [hW, ← s3]; simp⟩
set_option maxRecDepth 20000 in
set_option maxHeartbeats 4000000 in
theorem put_any (T : Tr) (k : Tup) (w : World) (hT : Lies w T) (hb : T.Bal) (hs : T.sz ≤ 900000) (hn : (Tr.look k T).2 = .nil) :
    Calls Tryz.prog 51 #[.agg #[.func (.func 50) #[] #[], .pointer T.ad], .agg #[.string k.a, .string k.b, .string k.c, .string k.d, .string k.e, .string k.f], .agg #[]] w (GivesM w fun T' => T'.Bal ∧ T'.li = T.li.take (Tr.look k T).1 ++ k :: T.li.drop (Tr.look k T).1) := by
  obtain ⟨hA, hM, hK, hR, hZ⟩ := put_world w T.ad k _ rfl
  have HA := hid hA
  have HM := hid hM
  have HK := hid hK
  have HR := hid hR
  have HZ := hid hZ
  have HT := hid (hT.below hA)
  have HS := hid hs
  have HBal := hid hb
  have hF := find_any fv T (.inl rfl) k _ HT.out (by omega)
  have HLE := hid (Tr.look_le k T)
  rw [hn] at hF
  simp only [fv] at hF
  have HF := hid hF
  generalize hI : (Tr.look k T).1 = i at *
  have i0 : (0 : Int) ≤ (i : Int) := by omega
  have hne := nil_ne
  clear hT hs hb hA hM hK hR hZ hn hI hF
  go_enter Tryz.func51, Tryz.ntmps51
  go_wp2_with fail
  refine HF.out.mono ?_
  rintro _ w1 ⟨rfl, hb1, hl1⟩
  clear hl1
  generalize hA1 : ((((w.alloc (.cells #[.func (.func 50) #[] #[], .pointer T.ad] 36 (0, 0))).alloc (.cells #[.string k.a, .string k.b, .string k.c, .string k.d, .string k.e, .string k.f] 48 (0, 0))).alloc (.cells #[] 84 (0, 0))).alloc (.cells #[.nilFunc, .pointer none] 36 (0, 0))) = A1 at *
  generalize hq : w.heap.size = q at *
  have HQ := hid hq
  have HRX : Hid (w1.drew.heap[q + 1 + 1 + 1]? = some (.cells #[.nilFunc, .pointer none] 36 (0, 0))) := hid ((hb1.block _ (Array.getElem?_eq_some_iff.1 HR.out).1).trans HR.out)
  have HLX : Hid (Lies w1.drew T) := hid ((HT.out.below hb1).below (g_drew g_refl))
  have HAX : Hid (Below A1.heap.size A1 w1.drew) := hid (g_drew hb1)
  have hm := keep2 (g_drew hb1) HM.out
  have hk := keep6 (g_drew hb1) HK.out
  have hS : w1.drew.cell? ⟨q, 0, none⟩ = some (.func (.func 50) #[] #[]) ∧ w1.drew.cell? ⟨q, 1, none⟩ = some (.pointer T.ad) ∧ w1.drew.cell? ⟨q + 1, 0, none⟩ = some (.string k.a) ∧ w1.drew.cell? ⟨q + 1, 1, none⟩ = some (.string k.b) ∧ w1.drew.cell? ⟨q + 1, 2, none⟩ = some (.string k.c) ∧ w1.drew.cell? ⟨q + 1, 3, none⟩ = some (.string k.d) ∧ w1.drew.cell? ⟨q + 1, 4, none⟩ = some (.string k.e) ∧ w1.drew.cell? ⟨q + 1, 5, none⟩ = some (.string k.f) := by
    obtain ⟨y0, y1, y2, y3, y4, y5⟩ := hk
    exact ⟨hm.1, hm.2, y0, y1, y2, y3, y4, y5⟩
  have HSS := hid hS
  have HCL := hid (insert_any T i k w1.drew HLX.out HBal.out (by have := HS.out; omega) HLE.out)
  clear hA1 hq hb1 hm hk HM HK HR HT HF
  go_wp2_with fail
  go_region_held3 (fun w' => w'.cell? ⟨q, 0, none⟩ = some (.func (.func 50) #[] #[]) ∧ w'.cell? ⟨q, 1, none⟩ = some (.pointer T.ad) ∧ w'.cell? ⟨q + 1, 0, none⟩ = some (.string k.a) ∧ w'.cell? ⟨q + 1, 1, none⟩ = some (.string k.b) ∧ w'.cell? ⟨q + 1, 2, none⟩ = some (.string k.c) ∧ w'.cell? ⟨q + 1, 3, none⟩ = some (.string k.d) ∧ w'.cell? ⟨q + 1, 4, none⟩ = some (.string k.e) ∧ w'.cell? ⟨q + 1, 5, none⟩ = some (.string k.f)) (first | with_reducible assumption | exact set_s8 (by omega) (by omega) hS2)
    (first | (go_at_call 74; (simp only [fold0]); (with_reducible refine Calls.mono HCL.out ?_); rintro _ w2 ⟨T2, rfl, hT2, hp2, hb2⟩; have hres := res2 HRX.out hb2; obtain ⟨r0, r1, r2, f0, f1⟩ := hres; have hS2 := keep8 hb2 HSS.out; have hA2 := g_trans HAX.out hb2))
  all_goals go_wp2
  refine bodyPost_ret (v := .agg #[.func (.func 50) #[] #[], .pointer T2.ad]) ?_ rfl ?_
  · simp [results, Tryz.results51, go_sem, *]
  · have h := HQ.out
    subst h
    have hz := HZ.out
    have hl : A1.heap.size ≤ A1.heap.size := Nat.le_refl _
    exact ⟨T2, rfl, hT2.bod (set_two r0 _ _) (by decide), ⟨hp2.2.1, hp2.1⟩, g_set (g_set (g_trans HA.out hA2) (by show w.heap.size ≤ w.heap.size + 1 + 1 + 1; omega) _) (by show w.heap.size ≤ w.heap.size + 1 + 1 + 1; omega) _⟩
/-- what a world holds that begins Drop -/
theorem drop_world (w : World) (p : Option Addr) (k : Tup) (W : World) (hW : W = ((w.alloc (.cells #[.func (.func 50) #[] #[], .pointer p] 36 (0, 0))).alloc (.cells #[.string k.a, .string k.b, .string k.c, .string k.d, .string k.e, .string k.f] 48 (0, 0))).alloc (.cells #[.nilFunc, .pointer none] 36 (0, 0))) :
    Below w.heap.size w W ∧ (W.cell? ⟨w.heap.size, 0, none⟩ = some (.func (.func 50) #[] #[]) ∧ W.cell? ⟨w.heap.size, 1, none⟩ = some (.pointer p)) ∧ (W.cell? ⟨w.heap.size + 1, 0, none⟩ = some (.string k.a) ∧ W.cell? ⟨w.heap.size + 1, 1, none⟩ = some (.string k.b) ∧ W.cell? ⟨w.heap.size + 1, 2, none⟩ = some (.string k.c) ∧ W.cell? ⟨w.heap.size + 1, 3, none⟩ = some (.string k.d) ∧ W.cell? ⟨w.heap.size + 1, 4, none⟩ = some (.string k.e) ∧ W.cell? ⟨w.heap.size + 1, 5, none⟩ = some (.string k.f)) ∧ W.heap[w.heap.size + 1 + 1]? = some (.cells #[.nilFunc, .pointer none] 36 (0, 0)) ∧ W.heap.size = w.heap.size + 1 + 1 + 1 := by
  obtain ⟨w1, h1⟩ : ∃ w1, w.alloc (.cells #[.func (.func 50) #[] #[], .pointer p] 36 (0, 0)) = w1 := ⟨_, rfl⟩
  obtain ⟨w2, h2⟩ : ∃ w2, w1.alloc (.cells #[.string k.a, .string k.b, .string k.c, .string k.d, .string k.e, .string k.f] 48 (0, 0)) = w2 := ⟨_, rfl⟩
  have s1 : w1.heap.size = w.heap.size + 1 := by rw [← h1]; simp
  have s2 : w2.heap.size = w.heap.size + 1 + 1 := by rw [← h2, ← s1]; simp
  have b1 : Below w.heap.size w w1 := by rw [← h1]; exact g_alloc g_refl _
  have b2 : Below w1.heap.size w1 w2 := by rw [← h2]; exact g_alloc g_refl _
  have m := box2p w (.func (.func 50) #[] #[]) (.pointer p) 36
  rw [h1] at m
  have n := box6p w1 k 48
  rw [h2, s1] at n
  rw [h1, h2] at hW
  have b4 : Below w2.heap.size w2 W := by rw [hW]; exact g_alloc g_refl _
  have r := new_at w2 (.cells #[.nilFunc, .pointer none] 36 (0, 0))
  rw [← hW, s2] at r
  exact ⟨g_trans (g_trans b1 b2) b4, keep2 (g_trans b2 b4) m, keep6 b4 n, r, by rw [hW, ← s2]; simp⟩
set_option maxRecDepth 20000 in
set_option maxHeartbeats 4000000 in
theorem drop_any (T : Tr) (k : Tup) (w : World) (hT : Lies w T) (hbl : T.Bal) (hs : T.sz ≤ 900000) {b : Nat} {l r : Tr} {k0 : Tup} (hn : (Tr.look k T).2 = .node b l k0 r) :
    Calls Tryz.prog 48 #[.agg #[.func (.func 50) #[] #[], .pointer T.ad], .agg #[.string k.a, .string k.b, .string k.c, .string k.d, .string k.e, .string k.f]] w (GivesM w fun T' => T'.Bal ∧ T'.li = T.li.eraseIdx (Tr.look k T).1) := by
  obtain ⟨hA, hM, hK, hR, hZ⟩ := drop_world w T.ad k _ rfl
  have HA := hid hA
  have HM := hid hM
  have HK := hid hK
  have HR := hid hR
  have HZ := hid hZ
  have HT := hid (hT.below hA)
  have HS := hid hs
  have HBal := hid hbl
  have hF := find_any fv T (.inl rfl) k _ HT.out (by omega)
  have HLE := hid (Tr.look_node k T hn).2
  rw [hn] at hF
  simp only [fv] at hF
  have HF := hid hF
  generalize hI : (Tr.look k T).1 = i at *
  have i0 : (0 : Int) ≤ (i : Int) := by omega
  have hne := nil_ne
  clear hT hs hbl hA hM hK hR hZ hn hI hF
  go_enter Tryz.func48, Tryz.ntmps48
  go_wp2_with fail
  refine HF.out.mono ?_
  rintro _ w1 ⟨rfl, hb1, hl1⟩
  clear hl1
  generalize hA1 : (((w.alloc (.cells #[.func (.func 50) #[] #[], .pointer T.ad] 36 (0, 0))).alloc (.cells #[.string k.a, .string k.b, .string k.c, .string k.d, .string k.e, .string k.f] 48 (0, 0))).alloc (.cells #[.nilFunc, .pointer none] 36 (0, 0))) = A1 at *
  generalize hq : w.heap.size = q at *
  have HQ := hid hq
  have HRX : Hid (w1.drew.heap[q + 1 + 1]? = some (.cells #[.nilFunc, .pointer none] 36 (0, 0))) := hid ((hb1.block _ (Array.getElem?_eq_some_iff.1 HR.out).1).trans HR.out)
  have HLX : Hid (Lies w1.drew T) := hid ((HT.out.below hb1).below (g_drew g_refl))
  have HAX : Hid (Below A1.heap.size A1 w1.drew) := hid (g_drew hb1)
  have hm := keep2 (g_drew hb1) HM.out
  have hS : w1.drew.cell? ⟨q, 0, none⟩ = some (.func (.func 50) #[] #[]) ∧ w1.drew.cell? ⟨q, 1, none⟩ = some (.pointer T.ad) := hm
  have HSS := hid hS
  have HCL := hid (remove_any T i w1.drew HLX.out HBal.out (by have := HS.out; omega) HLE.out)
  clear hA1 hq hb1 hm HM HK HR HT HF
  go_wp2_with fail
  go_region_held3 (fun w' => w'.cell? ⟨q, 0, none⟩ = some (.func (.func 50) #[] #[]) ∧ w'.cell? ⟨q, 1, none⟩ = some (.pointer T.ad)) (first | with_reducible assumption | exact ⟨set_cc (by omega) hS2.1, set_cc (by omega) hS2.2⟩)
    (first | (go_at_call 71; (with_reducible refine Calls.mono HCL.out ?_); rintro _ w2 ⟨T2, rfl, hT2, hp2, hb2⟩; have hres := res2 HRX.out hb2; obtain ⟨r0, r1, r2, f0, f1⟩ := hres; have hS2 := keep2 hb2 HSS.out; have hA2 := g_trans HAX.out hb2))
  all_goals go_wp2
  refine bodyPost_ret (v := .agg #[.func (.func 50) #[] #[], .pointer T2.ad]) ?_ rfl ?_
  · simp [results, Tryz.results48, go_sem, *]
  · have h := HQ.out
    subst h
    have hz := HZ.out
    have hl : A1.heap.size ≤ A1.heap.size := Nat.le_refl _
    exact ⟨T2, rfl, hT2.bod (set_two r0 _ _) (by decide), ⟨hp2.2.1, hp2.1⟩, g_set (g_set (g_trans HA.out hA2) (by show w.heap.size ≤ w.heap.size + 1 + 1; omega) _) (by show w.heap.size ≤ w.heap.size + 1 + 1; omega) _⟩
end Go.Proofs.YtgfgfggoofjeeaaGreat.DT
