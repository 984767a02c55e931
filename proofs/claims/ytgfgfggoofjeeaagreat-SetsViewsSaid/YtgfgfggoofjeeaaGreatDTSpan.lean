/-
  THE CONTRACT of sets' span.
-/
import Derived.Test.YtgfgfggoofjeeaaGreatDTSame
import Derived.Test.YtgfgfggoofjeeaaGreatFTak
namespace Go.Proofs.YtgfgfggoofjeeaaGreat.DT
open Go.RowKit Go.Deep

/-- a string behind which none is that begins with it -/
def nxt (s : ByteArray) : ByteArray := s ++ ⟨#[0]⟩
/-- the least tuple that a filter's prefix allows, and one behind the last one -/
def fstT (f : Fil) : Tup := ⟨f.a, f.b, f.c, f.d, f.e, f.f⟩
def behT (f : Fil) : Tup := if fpre f = 1 then ⟨nxt f.a, f.b, f.c, f.d, f.e, f.f⟩ else if fpre f = 2 then ⟨f.a, nxt f.b, f.c, f.d, f.e, f.f⟩ else if fpre f = 3 then ⟨f.a, f.b, nxt f.c, f.d, f.e, f.f⟩ else ⟨f.a, f.b, f.c, f.d, f.e, nxt f.f⟩
def spA (f : Fil) (l : List Tup) : Nat := if fpre f = 0 then 0 else Tr.rk l (fstT f)
def spB (f : Fil) (l : List Tup) : Nat := if fpre f = 0 then l.length else Tr.rk l (behT f)
theorem rank_z (a b c d e f : ByteArray) {ov : Value} {w : World} {T : Tr} {l : List Tup} {n : Nat} (hr : Tr.rk l ⟨a, b, c, d, e, f⟩ = n) (h : MapL w ov T l) (hn : l.length ≤ 900000) :
    Calls Tryz.prog 57 #[.agg #[ov, .pointer T.ad], .agg #[.string a, .string b, .string c, .string d, .string e, .string f]] w fun e w' => e = .returned (.int .i64 (n : Nat)) ∧ Below w.heap.size w w' := by
  subst hr; exact rank_l ⟨a, b, c, d, e, f⟩ h hn
theorem fprefix_v (a b c d e f : ByteArray) (x : Bool) (n : Int) (w : World) (h : fpre ⟨a, b, c, d, e, f, x⟩ = n) :
    Calls Tryz.prog 56 #[.agg #[.string a, .string b, .string c, .string d, .string e, .string f, .bool x]] w fun r w' => r = .returned (.int .i64 n) ∧ Below w.heap.size w w' := by
  subst h; exact (fprefix ⟨a, b, c, d, e, f, x⟩ w).mono fun _ _ h => ⟨h.1, by first | exact h.2.toBelow | exact h.2⟩
theorem span_world (w : World) (ov : Value) (p : Option Addr) (a b c d e f : ByteArray) (x : Bool) (W : World) (hW : W = (((w.alloc (.cells #[ov, .pointer p] 38 (0, 0))).alloc (.cells #[.string a, .string b, .string c, .string d, .string e, .string f, .bool x] 51 (0, 0))).alloc (.cells #[.string a, .string b, .string c, .string d, .string e, .string f] 48 (0, 0))).alloc (.cells #[.string a, .string b, .string c, .string d, .string e, .string f] 48 (0, 0))) :
    Below w.heap.size w W ∧ (W.cell? ⟨w.heap.size, 0, none⟩ = some ov ∧ W.cell? ⟨w.heap.size, 1, none⟩ = some (.pointer p)) ∧ (W.cell? ⟨w.heap.size + 1 + 1, 0, none⟩ = some (.string a) ∧ W.cell? ⟨w.heap.size + 1 + 1, 1, none⟩ = some (.string b) ∧ W.cell? ⟨w.heap.size + 1 + 1, 2, none⟩ = some (.string c) ∧ W.cell? ⟨w.heap.size + 1 + 1, 3, none⟩ = some (.string d) ∧ W.cell? ⟨w.heap.size + 1 + 1, 4, none⟩ = some (.string e) ∧ W.cell? ⟨w.heap.size + 1 + 1, 5, none⟩ = some (.string f)) ∧ W.heap[w.heap.size + 1 + 1 + 1]? = some (.cells #[.string a, .string b, .string c, .string d, .string e, .string f] 48 (0, 0)) := by
  obtain ⟨w1, h1⟩ : ∃ w1, w.alloc (.cells #[ov, .pointer p] 38 (0, 0)) = w1 := ⟨_, rfl⟩
  obtain ⟨w2, h2⟩ : ∃ w2, w1.alloc (.cells #[.string a, .string b, .string c, .string d, .string e, .string f, .bool x] 51 (0, 0)) = w2 := ⟨_, rfl⟩
  obtain ⟨w3, h3⟩ : ∃ w3, w2.alloc (.cells #[.string a, .string b, .string c, .string d, .string e, .string f] 48 (0, 0)) = w3 := ⟨_, rfl⟩
  have s1 : w1.heap.size = w.heap.size + 1 := by rw [← h1]; simp
  have s2 : w2.heap.size = w.heap.size + 1 + 1 := by rw [← h2, ← s1]; simp
  have s3 : w3.heap.size = w.heap.size + 1 + 1 + 1 := by rw [← h3, ← s2]; simp
  have b1 : Below w.heap.size w w1 := by rw [← h1]; exact g_alloc g_refl _
  have b2 : Below w1.heap.size w1 w2 := by rw [← h2]; exact g_alloc g_refl _
  have b3 : Below w2.heap.size w2 w3 := by rw [← h3]; exact g_alloc g_refl _
  have m := box2p w ov (.pointer p) 38
  rw [h1] at m hW
  rw [h2, h3] at hW
  have b4 : Below w3.heap.size w3 W := by rw [hW]; exact g_alloc g_refl _
  have n := new_at w2 (.cells #[.string a, .string b, .string c, .string d, .string e, .string f] 48 (0, 0))
  rw [h3, s2] at n
  have n2 := (b4.block _ (Array.getElem?_eq_some_iff.1 n).1).trans n
  have cc := fun j => box_cell n2 j
  have r := new_at w3 (.cells #[.string a, .string b, .string c, .string d, .string e, .string f] 48 (0, 0))
  rw [← hW, s3] at r
  exact ⟨g_trans (g_trans (g_trans b1 b2) b3) b4, keep2 (g_trans (g_trans b2 b3) b4) m, ⟨(cc 0).trans rfl, (cc 1).trans rfl, (cc 2).trans rfl, (cc 3).trans rfl, (cc 4).trans rfl, (cc 5).trans rfl⟩, r⟩
/-- the string in one cell of six is written over -/
theorem six_set {W : World} {g : Nat} {t : TypeId} {x0 x1 x2 x3 x4 x5 : Value} (h : W.heap[g]? = some (.cells #[x0, x1, x2, x3, x4, x5] t (0, 0))) (j : Nat) (u : Value) : (W.setCell ⟨g, j, none⟩ u).heap[g]? = some (.cells (#[x0, x1, x2, x3, x4, x5].setIfInBounds j u) t (0, 0)) := heap_setCell_same W g j _ t u h
set_option maxRecDepth 20000 in
set_option maxHeartbeats 4000000 in
theorem span_0 (a b c d e f : ByteArray) (x : Bool) {w : World} {ov : Value} {T : Tr} {l : List Tup} (h : MapL w ov T l) (hn : l.length ≤ 900000) (hp : fpre ⟨a, b, c, d, e, f, x⟩ = 0) :
    Calls Tryz.prog 33 #[.agg #[ov, .pointer T.ad], .agg #[.string a, .string b, .string c, .string d, .string e, .string f, .bool x]] w fun r w' => r = .returned (.tuple #[.int .i64 (0 : Nat), .int .i64 (l.length : Nat)]) ∧ Below w.heap.size w w' := by
  obtain ⟨hA, hM, hF, hS0⟩ := span_world w ov T.ad a b c d e f x _ rfl
  have HA := hid hA
  have HM := hid hM
  have HF := hid hF
  have HR := hid hS0
  have HL := hid (h.below hA)
  have HN := hid hn
  have HP := hid (fun W => fprefix_v a b c d e f x 0 W hp)
  clear h hA hM hF hS0 hn hp
  go_enter Tryz.func33, Tryz.ntmps33
  go_wp2_with fail
  refine (HP.out _).mono ?_
  rintro _ w1 ⟨rfl, hb1⟩
  generalize hA1 : ((((w.alloc (.cells #[ov, .pointer T.ad] 38 (0, 0))).alloc (.cells #[.string a, .string b, .string c, .string d, .string e, .string f, .bool x] 51 (0, 0))).alloc (.cells #[.string a, .string b, .string c, .string d, .string e, .string f] 48 (0, 0))).alloc (.cells #[.string a, .string b, .string c, .string d, .string e, .string f] 48 (0, 0))) = A1 at *
  generalize hq : w.heap.size = q at *
  have HQ := hid hq
  have HA1 := hid hA1
  clear hA1 hq
  obtain ⟨k0, k1⟩ := keep2 hb1 HM.out
  have HL1 := hid (HL.out.below hb1)
  have HB1 := hid hb1
  clear hb1
  go_wp2_with fail
  refine (len_l HL1.out).mono ?_
  rintro _ w2 ⟨rfl, hb2⟩
  go_wp2
  go_ret2
  have h := HQ.out
  subst h
  exact ⟨rfl, g_trans (g_trans HA.out HB1.out) hb2⟩
set_option maxRecDepth 20000 in
set_option maxHeartbeats 4000000 in
theorem span_1 (a b c d e f : ByteArray) (x : Bool) {w : World} {ov : Value} {T : Tr} {l : List Tup} (h : MapL w ov T l) (hn : l.length ≤ 900000) (hp : fpre ⟨a, b, c, d, e, f, x⟩ = 1) (hz : a.size ≤ 100) :
    Calls Tryz.prog 33 #[.agg #[ov, .pointer T.ad], .agg #[.string a, .string b, .string c, .string d, .string e, .string f, .bool x]] w fun r w' => r = .returned (.tuple #[.int .i64 (Tr.rk l ⟨a, b, c, d, e, f⟩ : Nat), .int .i64 (Tr.rk l ⟨(nxt a), b, c, d, e, f⟩ : Nat)]) ∧ Below w.heap.size w w' := by
  obtain ⟨hA, hM, hF, hS0⟩ := span_world w ov T.ad a b c d e f x _ rfl
  have HA := hid hA
  have HM := hid hM
  have HF := hid hF
  have HR := hid hS0
  have HL := hid (h.below hA)
  have HN := hid hn
  have HP := hid (fun W => fprefix_v a b c d e f x 1 W hp)
  have hzz : ¬ 9223372036854775807 < a.size + 1 := by omega
  obtain ⟨y, hy⟩ : ∃ y, nxt a = y := ⟨_, rfl⟩
  have hadd : a ++ ⟨#[0]⟩ = y := hy
  rw [hy]
  obtain ⟨n1, h1⟩ : ∃ n1, Tr.rk l ⟨a, b, c, d, e, f⟩ = n1 := ⟨_, rfl⟩
  obtain ⟨n2, h2⟩ : ∃ n2, Tr.rk l ⟨y, b, c, d, e, f⟩ = n2 := ⟨_, rfl⟩
  rw [h1, h2]
  have HR1 := hid (fun W (h : MapL W ov T l) => rank_z a b c d e f h1 h hn)
  have HR2 := hid (fun W (h : MapL W ov T l) => rank_z y b c d e f h2 h hn)
  clear h hA hM hF hS0 hn hp hz hy h1 h2
  go_enter Tryz.func33, Tryz.ntmps33
  go_wp2_with fail
  refine (HP.out _).mono ?_
  rintro _ w1 ⟨rfl, hb1⟩
  generalize hA1 : ((((w.alloc (.cells #[ov, .pointer T.ad] 38 (0, 0))).alloc (.cells #[.string a, .string b, .string c, .string d, .string e, .string f, .bool x] 51 (0, 0))).alloc (.cells #[.string a, .string b, .string c, .string d, .string e, .string f] 48 (0, 0))).alloc (.cells #[.string a, .string b, .string c, .string d, .string e, .string f] 48 (0, 0))) = A1 at *
  generalize hq : w.heap.size = q at *
  have HQ := hid hq
  have HA1 := hid hA1
  clear hA1 hq
  have hr1 := (hb1.block _ (Array.getElem?_eq_some_iff.1 HR.out).1).trans HR.out
  obtain ⟨⟨f0, f1, f2, f3, f4, f5⟩, ⟨c0, c1, c2, c3, c4, c5⟩⟩ := res6 hr1 g_refl
  have HR1' := hid hr1
  have HM1 := hid (keep2 hb1 HM.out)
  have HF1 := hid (keep6 hb1 HF.out)
  have HL1 := hid (HL.out.below hb1)
  have HB1 := hid hb1
  clear hb1 hr1
  go_wp2_with fail
  obtain ⟨W, hW⟩ : ∃ W, w1.setCell ⟨q + 1 + 1 + 1, 0, none⟩ (.string y) = W := ⟨_, rfl⟩
  rw [hW]
  have hr2 : W.heap[q + 1 + 1 + 1]? = some (.cells #[.string y, .string b, .string c, .string d, .string e, .string f] 48 (0, 0)) := by rw [← hW]; exact six_set HR1'.out 0 (.string y)
  have cb := fun j => box_cell hr2 j
  have hS : W.drew.cell? ⟨q, 0, none⟩ = some ov ∧ W.drew.cell? ⟨q, 1, none⟩ = some (.pointer T.ad) ∧ W.drew.cell? ⟨q + 1 + 1, 0, none⟩ = some (.string a) ∧ W.drew.cell? ⟨q + 1 + 1, 1, none⟩ = some (.string b) ∧ W.drew.cell? ⟨q + 1 + 1, 2, none⟩ = some (.string c) ∧ W.drew.cell? ⟨q + 1 + 1, 3, none⟩ = some (.string d) ∧ W.drew.cell? ⟨q + 1 + 1, 4, none⟩ = some (.string e) ∧ W.drew.cell? ⟨q + 1 + 1, 5, none⟩ = some (.string f) ∧ W.drew.cell? ⟨q + 1 + 1 + 1, 0, none⟩ = some (.string y) ∧ W.drew.cell? ⟨q + 1 + 1 + 1, 1, none⟩ = some (.string b) ∧ W.drew.cell? ⟨q + 1 + 1 + 1, 2, none⟩ = some (.string c) ∧ W.drew.cell? ⟨q + 1 + 1 + 1, 3, none⟩ = some (.string d) ∧ W.drew.cell? ⟨q + 1 + 1 + 1, 4, none⟩ = some (.string e) ∧ W.drew.cell? ⟨q + 1 + 1 + 1, 5, none⟩ = some (.string f) := by
    obtain ⟨m0, m1⟩ := HM1.out
    obtain ⟨n0, n1, n2, n3, n4, n5⟩ := HF1.out
    refine ⟨?_, ?_, ?_, ?_, ?_, ?_, ?_, ?_, (cb 0).trans rfl, (cb 1).trans rfl, (cb 2).trans rfl, (cb 3).trans rfl, (cb 4).trans rfl, (cb 5).trans rfl⟩
    all_goals (show W.cell? _ = _; rw [← hW]; refine set_c (by omega) ?_; assumption)
  have HLW : Hid (MapL W.drew ov T l) := hid (by rw [← hW]; exact (HL1.out.bod (Bod.set HR1'.out _) (by decide)).below (g_drew g_refl))
  have HBW : Hid (Below q w W.drew) := hid (by
    rw [← hW]
    have h := HQ.out
    subst h
    exact g_drew (g_set (g_trans HA.out HB1.out) (by show w.heap.size ≤ w.heap.size + 1 + 1 + 1; omega) _))
  clear hW hr2 cb f0 f1 f2 f3 f4 f5 c0 c1 c2 c3 c4 c5 hadd hzz HR1' HM1 HF1 HL1 HB1 HL HA HM HF HR HP
  go_region_held3 (fun w' => w'.cell? ⟨q, 0, none⟩ = some ov ∧ w'.cell? ⟨q, 1, none⟩ = some (.pointer T.ad) ∧ w'.cell? ⟨q + 1 + 1, 0, none⟩ = some (.string a) ∧ w'.cell? ⟨q + 1 + 1, 1, none⟩ = some (.string b) ∧ w'.cell? ⟨q + 1 + 1, 2, none⟩ = some (.string c) ∧ w'.cell? ⟨q + 1 + 1, 3, none⟩ = some (.string d) ∧ w'.cell? ⟨q + 1 + 1, 4, none⟩ = some (.string e) ∧ w'.cell? ⟨q + 1 + 1, 5, none⟩ = some (.string f) ∧ w'.cell? ⟨q + 1 + 1 + 1, 0, none⟩ = some (.string y) ∧ w'.cell? ⟨q + 1 + 1 + 1, 1, none⟩ = some (.string b) ∧ w'.cell? ⟨q + 1 + 1 + 1, 2, none⟩ = some (.string c) ∧ w'.cell? ⟨q + 1 + 1 + 1, 3, none⟩ = some (.string d) ∧ w'.cell? ⟨q + 1 + 1 + 1, 4, none⟩ = some (.string e) ∧ w'.cell? ⟨q + 1 + 1 + 1, 5, none⟩ = some (.string f)) (first | with_reducible assumption | exact keep14 (by with_reducible assumption) (by with_reducible assumption))
    (first | (go_at_call 57; (with_reducible refine Calls.mono (HR1.out _ (by first | with_reducible exact HLW.out | with_reducible exact HLW.out.below hb4)) ?_); rintro _ w3 ⟨rfl, hb3⟩) | (go_at_call 57; (with_reducible refine Calls.mono (HR2.out _ (by first | with_reducible exact HLW.out | with_reducible exact HLW.out.below hb3)) ?_); rintro _ w4 ⟨rfl, hb4⟩))
  all_goals go_wp2
  all_goals go_ret2
  all_goals
    have h := HQ.out
    subst h
    exact ⟨rfl, by first | with_reducible exact g_trans (g_trans HBW.out hb3) hb4 | with_reducible exact g_trans (g_trans HBW.out hb4) hb3⟩
set_option maxRecDepth 20000 in
set_option maxHeartbeats 4000000 in
theorem span_2 (a b c d e f : ByteArray) (x : Bool) {w : World} {ov : Value} {T : Tr} {l : List Tup} (h : MapL w ov T l) (hn : l.length ≤ 900000) (hp : fpre ⟨a, b, c, d, e, f, x⟩ = 2) (hz : b.size ≤ 100) :
    Calls Tryz.prog 33 #[.agg #[ov, .pointer T.ad], .agg #[.string a, .string b, .string c, .string d, .string e, .string f, .bool x]] w fun r w' => r = .returned (.tuple #[.int .i64 (Tr.rk l ⟨a, b, c, d, e, f⟩ : Nat), .int .i64 (Tr.rk l ⟨a, (nxt b), c, d, e, f⟩ : Nat)]) ∧ Below w.heap.size w w' := by
  obtain ⟨hA, hM, hF, hS0⟩ := span_world w ov T.ad a b c d e f x _ rfl
  have HA := hid hA
  have HM := hid hM
  have HF := hid hF
  have HR := hid hS0
  have HL := hid (h.below hA)
  have HN := hid hn
  have HP := hid (fun W => fprefix_v a b c d e f x 2 W hp)
  have hzz : ¬ 9223372036854775807 < b.size + 1 := by omega
  obtain ⟨y, hy⟩ : ∃ y, nxt b = y := ⟨_, rfl⟩
  have hadd : b ++ ⟨#[0]⟩ = y := hy
  rw [hy]
  obtain ⟨n1, h1⟩ : ∃ n1, Tr.rk l ⟨a, b, c, d, e, f⟩ = n1 := ⟨_, rfl⟩
  obtain ⟨n2, h2⟩ : ∃ n2, Tr.rk l ⟨a, y, c, d, e, f⟩ = n2 := ⟨_, rfl⟩
  rw [h1, h2]
  have HR1 := hid (fun W (h : MapL W ov T l) => rank_z a b c d e f h1 h hn)
  have HR2 := hid (fun W (h : MapL W ov T l) => rank_z a y c d e f h2 h hn)
  clear h hA hM hF hS0 hn hp hz hy h1 h2
  go_enter Tryz.func33, Tryz.ntmps33
  go_wp2_with fail
  refine (HP.out _).mono ?_
  rintro _ w1 ⟨rfl, hb1⟩
  generalize hA1 : ((((w.alloc (.cells #[ov, .pointer T.ad] 38 (0, 0))).alloc (.cells #[.string a, .string b, .string c, .string d, .string e, .string f, .bool x] 51 (0, 0))).alloc (.cells #[.string a, .string b, .string c, .string d, .string e, .string f] 48 (0, 0))).alloc (.cells #[.string a, .string b, .string c, .string d, .string e, .string f] 48 (0, 0))) = A1 at *
  generalize hq : w.heap.size = q at *
  have HQ := hid hq
  have HA1 := hid hA1
  clear hA1 hq
  have hr1 := (hb1.block _ (Array.getElem?_eq_some_iff.1 HR.out).1).trans HR.out
  obtain ⟨⟨f0, f1, f2, f3, f4, f5⟩, ⟨c0, c1, c2, c3, c4, c5⟩⟩ := res6 hr1 g_refl
  have HR1' := hid hr1
  have HM1 := hid (keep2 hb1 HM.out)
  have HF1 := hid (keep6 hb1 HF.out)
  have HL1 := hid (HL.out.below hb1)
  have HB1 := hid hb1
  clear hb1 hr1
  go_wp2_with fail
  obtain ⟨W, hW⟩ : ∃ W, w1.setCell ⟨q + 1 + 1 + 1, 1, none⟩ (.string y) = W := ⟨_, rfl⟩
  rw [hW]
  have hr2 : W.heap[q + 1 + 1 + 1]? = some (.cells #[.string a, .string y, .string c, .string d, .string e, .string f] 48 (0, 0)) := by rw [← hW]; exact six_set HR1'.out 1 (.string y)
  have cb := fun j => box_cell hr2 j
  have hS : W.drew.cell? ⟨q, 0, none⟩ = some ov ∧ W.drew.cell? ⟨q, 1, none⟩ = some (.pointer T.ad) ∧ W.drew.cell? ⟨q + 1 + 1, 0, none⟩ = some (.string a) ∧ W.drew.cell? ⟨q + 1 + 1, 1, none⟩ = some (.string b) ∧ W.drew.cell? ⟨q + 1 + 1, 2, none⟩ = some (.string c) ∧ W.drew.cell? ⟨q + 1 + 1, 3, none⟩ = some (.string d) ∧ W.drew.cell? ⟨q + 1 + 1, 4, none⟩ = some (.string e) ∧ W.drew.cell? ⟨q + 1 + 1, 5, none⟩ = some (.string f) ∧ W.drew.cell? ⟨q + 1 + 1 + 1, 0, none⟩ = some (.string a) ∧ W.drew.cell? ⟨q + 1 + 1 + 1, 1, none⟩ = some (.string y) ∧ W.drew.cell? ⟨q + 1 + 1 + 1, 2, none⟩ = some (.string c) ∧ W.drew.cell? ⟨q + 1 + 1 + 1, 3, none⟩ = some (.string d) ∧ W.drew.cell? ⟨q + 1 + 1 + 1, 4, none⟩ = some (.string e) ∧ W.drew.cell? ⟨q + 1 + 1 + 1, 5, none⟩ = some (.string f) := by
    obtain ⟨m0, m1⟩ := HM1.out
    obtain ⟨n0, n1, n2, n3, n4, n5⟩ := HF1.out
    refine ⟨?_, ?_, ?_, ?_, ?_, ?_, ?_, ?_, (cb 0).trans rfl, (cb 1).trans rfl, (cb 2).trans rfl, (cb 3).trans rfl, (cb 4).trans rfl, (cb 5).trans rfl⟩
    all_goals (show W.cell? _ = _; rw [← hW]; refine set_c (by omega) ?_; assumption)
  have HLW : Hid (MapL W.drew ov T l) := hid (by rw [← hW]; exact (HL1.out.bod (Bod.set HR1'.out _) (by decide)).below (g_drew g_refl))
  have HBW : Hid (Below q w W.drew) := hid (by
    rw [← hW]
    have h := HQ.out
    subst h
    exact g_drew (g_set (g_trans HA.out HB1.out) (by show w.heap.size ≤ w.heap.size + 1 + 1 + 1; omega) _))
  clear hW hr2 cb f0 f1 f2 f3 f4 f5 c0 c1 c2 c3 c4 c5 hadd hzz HR1' HM1 HF1 HL1 HB1 HL HA HM HF HR HP
  go_region_held3 (fun w' => w'.cell? ⟨q, 0, none⟩ = some ov ∧ w'.cell? ⟨q, 1, none⟩ = some (.pointer T.ad) ∧ w'.cell? ⟨q + 1 + 1, 0, none⟩ = some (.string a) ∧ w'.cell? ⟨q + 1 + 1, 1, none⟩ = some (.string b) ∧ w'.cell? ⟨q + 1 + 1, 2, none⟩ = some (.string c) ∧ w'.cell? ⟨q + 1 + 1, 3, none⟩ = some (.string d) ∧ w'.cell? ⟨q + 1 + 1, 4, none⟩ = some (.string e) ∧ w'.cell? ⟨q + 1 + 1, 5, none⟩ = some (.string f) ∧ w'.cell? ⟨q + 1 + 1 + 1, 0, none⟩ = some (.string a) ∧ w'.cell? ⟨q + 1 + 1 + 1, 1, none⟩ = some (.string y) ∧ w'.cell? ⟨q + 1 + 1 + 1, 2, none⟩ = some (.string c) ∧ w'.cell? ⟨q + 1 + 1 + 1, 3, none⟩ = some (.string d) ∧ w'.cell? ⟨q + 1 + 1 + 1, 4, none⟩ = some (.string e) ∧ w'.cell? ⟨q + 1 + 1 + 1, 5, none⟩ = some (.string f)) (first | with_reducible assumption | exact keep14 (by with_reducible assumption) (by with_reducible assumption))
    (first | (go_at_call 57; (with_reducible refine Calls.mono (HR1.out _ (by first | with_reducible exact HLW.out | with_reducible exact HLW.out.below hb4)) ?_); rintro _ w3 ⟨rfl, hb3⟩) | (go_at_call 57; (with_reducible refine Calls.mono (HR2.out _ (by first | with_reducible exact HLW.out | with_reducible exact HLW.out.below hb3)) ?_); rintro _ w4 ⟨rfl, hb4⟩))
  all_goals go_wp2
  all_goals go_ret2
  all_goals
    have h := HQ.out
    subst h
    exact ⟨rfl, by first | with_reducible exact g_trans (g_trans HBW.out hb3) hb4 | with_reducible exact g_trans (g_trans HBW.out hb4) hb3⟩
set_option maxRecDepth 20000 in
set_option maxHeartbeats 4000000 in
theorem span_3 (a b c d e f : ByteArray) (x : Bool) {w : World} {ov : Value} {T : Tr} {l : List Tup} (h : MapL w ov T l) (hn : l.length ≤ 900000) (hp : fpre ⟨a, b, c, d, e, f, x⟩ = 3) (hz : c.size ≤ 100) :
    Calls Tryz.prog 33 #[.agg #[ov, .pointer T.ad], .agg #[.string a, .string b, .string c, .string d, .string e, .string f, .bool x]] w fun r w' => r = .returned (.tuple #[.int .i64 (Tr.rk l ⟨a, b, c, d, e, f⟩ : Nat), .int .i64 (Tr.rk l ⟨a, b, (nxt c), d, e, f⟩ : Nat)]) ∧ Below w.heap.size w w' := by
  obtain ⟨hA, hM, hF, hS0⟩ := span_world w ov T.ad a b c d e f x _ rfl
  have HA := hid hA
  have HM := hid hM
  have HF := hid hF
  have HR := hid hS0
  have HL := hid (h.below hA)
  have HN := hid hn
  have HP := hid (fun W => fprefix_v a b c d e f x 3 W hp)
  have hzz : ¬ 9223372036854775807 < c.size + 1 := by omega
  obtain ⟨y, hy⟩ : ∃ y, nxt c = y := ⟨_, rfl⟩
  have hadd : c ++ ⟨#[0]⟩ = y := hy
  rw [hy]
  obtain ⟨n1, h1⟩ : ∃ n1, Tr.rk l ⟨a, b, c, d, e, f⟩ = n1 := ⟨_, rfl⟩
  obtain ⟨n2, h2⟩ : ∃ n2, Tr.rk l ⟨a, b, y, d, e, f⟩ = n2 := ⟨_, rfl⟩
  rw [h1, h2]
  have HR1 := hid (fun W (h : MapL W ov T l) => rank_z a b c d e f h1 h hn)
  have HR2 := hid (fun W (h : MapL W ov T l) => rank_z a b y d e f h2 h hn)
  clear h hA hM hF hS0 hn hp hz hy h1 h2
  go_enter Tryz.func33, Tryz.ntmps33
  go_wp2_with fail
  refine (HP.out _).mono ?_
  rintro _ w1 ⟨rfl, hb1⟩
  generalize hA1 : ((((w.alloc (.cells #[ov, .pointer T.ad] 38 (0, 0))).alloc (.cells #[.string a, .string b, .string c, .string d, .string e, .string f, .bool x] 51 (0, 0))).alloc (.cells #[.string a, .string b, .string c, .string d, .string e, .string f] 48 (0, 0))).alloc (.cells #[.string a, .string b, .string c, .string d, .string e, .string f] 48 (0, 0))) = A1 at *
  generalize hq : w.heap.size = q at *
  have HQ := hid hq
  have HA1 := hid hA1
  clear hA1 hq
  have hr1 := (hb1.block _ (Array.getElem?_eq_some_iff.1 HR.out).1).trans HR.out
  obtain ⟨⟨f0, f1, f2, f3, f4, f5⟩, ⟨c0, c1, c2, c3, c4, c5⟩⟩ := res6 hr1 g_refl
  have HR1' := hid hr1
  have HM1 := hid (keep2 hb1 HM.out)
  have HF1 := hid (keep6 hb1 HF.out)
  have HL1 := hid (HL.out.below hb1)
  have HB1 := hid hb1
  clear hb1 hr1
  go_wp2_with fail
  obtain ⟨W, hW⟩ : ∃ W, w1.setCell ⟨q + 1 + 1 + 1, 2, none⟩ (.string y) = W := ⟨_, rfl⟩
  rw [hW]
  have hr2 : W.heap[q + 1 + 1 + 1]? = some (.cells #[.string a, .string b, .string y, .string d, .string e, .string f] 48 (0, 0)) := by rw [← hW]; exact six_set HR1'.out 2 (.string y)
  have cb := fun j => box_cell hr2 j
  have hS : W.drew.cell? ⟨q, 0, none⟩ = some ov ∧ W.drew.cell? ⟨q, 1, none⟩ = some (.pointer T.ad) ∧ W.drew.cell? ⟨q + 1 + 1, 0, none⟩ = some (.string a) ∧ W.drew.cell? ⟨q + 1 + 1, 1, none⟩ = some (.string b) ∧ W.drew.cell? ⟨q + 1 + 1, 2, none⟩ = some (.string c) ∧ W.drew.cell? ⟨q + 1 + 1, 3, none⟩ = some (.string d) ∧ W.drew.cell? ⟨q + 1 + 1, 4, none⟩ = some (.string e) ∧ W.drew.cell? ⟨q + 1 + 1, 5, none⟩ = some (.string f) ∧ W.drew.cell? ⟨q + 1 + 1 + 1, 0, none⟩ = some (.string a) ∧ W.drew.cell? ⟨q + 1 + 1 + 1, 1, none⟩ = some (.string b) ∧ W.drew.cell? ⟨q + 1 + 1 + 1, 2, none⟩ = some (.string y) ∧ W.drew.cell? ⟨q + 1 + 1 + 1, 3, none⟩ = some (.string d) ∧ W.drew.cell? ⟨q + 1 + 1 + 1, 4, none⟩ = some (.string e) ∧ W.drew.cell? ⟨q + 1 + 1 + 1, 5, none⟩ = some (.string f) := by
    obtain ⟨m0, m1⟩ := HM1.out
    obtain ⟨n0, n1, n2, n3, n4, n5⟩ := HF1.out
    refine ⟨?_, ?_, ?_, ?_, ?_, ?_, ?_, ?_, (cb 0).trans rfl, (cb 1).trans rfl, (cb 2).trans rfl, (cb 3).trans rfl, (cb 4).trans rfl, (cb 5).trans rfl⟩
    all_goals (show W.cell? _ = _; rw [← hW]; refine set_c (by omega) ?_; assumption)
  have HLW : Hid (MapL W.drew ov T l) := hid (by rw [← hW]; exact (HL1.out.bod (Bod.set HR1'.out _) (by decide)).below (g_drew g_refl))
  have HBW : Hid (Below q w W.drew) := hid (by
    rw [← hW]
    have h := HQ.out
    subst h
    exact g_drew (g_set (g_trans HA.out HB1.out) (by show w.heap.size ≤ w.heap.size + 1 + 1 + 1; omega) _))
  clear hW hr2 cb f0 f1 f2 f3 f4 f5 c0 c1 c2 c3 c4 c5 hadd hzz HR1' HM1 HF1 HL1 HB1 HL HA HM HF HR HP
  go_region_held3 (fun w' => w'.cell? ⟨q, 0, none⟩ = some ov ∧ w'.cell? ⟨q, 1, none⟩ = some (.pointer T.ad) ∧ w'.cell? ⟨q + 1 + 1, 0, none⟩ = some (.string a) ∧ w'.cell? ⟨q + 1 + 1, 1, none⟩ = some (.string b) ∧ w'.cell? ⟨q + 1 + 1, 2, none⟩ = some (.string c) ∧ w'.cell? ⟨q + 1 + 1, 3, none⟩ = some (.string d) ∧ w'.cell? ⟨q + 1 + 1, 4, none⟩ = some (.string e) ∧ w'.cell? ⟨q + 1 + 1, 5, none⟩ = some (.string f) ∧ w'.cell? ⟨q + 1 + 1 + 1, 0, none⟩ = some (.string a) ∧ w'.cell? ⟨q + 1 + 1 + 1, 1, none⟩ = some (.string b) ∧ w'.cell? ⟨q + 1 + 1 + 1, 2, none⟩ = some (.string y) ∧ w'.cell? ⟨q + 1 + 1 + 1, 3, none⟩ = some (.string d) ∧ w'.cell? ⟨q + 1 + 1 + 1, 4, none⟩ = some (.string e) ∧ w'.cell? ⟨q + 1 + 1 + 1, 5, none⟩ = some (.string f)) (first | with_reducible assumption | exact keep14 (by with_reducible assumption) (by with_reducible assumption))
    (first | (go_at_call 57; (with_reducible refine Calls.mono (HR1.out _ (by first | with_reducible exact HLW.out | with_reducible exact HLW.out.below hb4)) ?_); rintro _ w3 ⟨rfl, hb3⟩) | (go_at_call 57; (with_reducible refine Calls.mono (HR2.out _ (by first | with_reducible exact HLW.out | with_reducible exact HLW.out.below hb3)) ?_); rintro _ w4 ⟨rfl, hb4⟩))
  all_goals go_wp2
  all_goals go_ret2
  all_goals
    have h := HQ.out
    subst h
    exact ⟨rfl, by first | with_reducible exact g_trans (g_trans HBW.out hb3) hb4 | with_reducible exact g_trans (g_trans HBW.out hb4) hb3⟩
set_option maxRecDepth 20000 in
set_option maxHeartbeats 4000000 in
theorem span_4 (a b c d e f : ByteArray) (x : Bool) {w : World} {ov : Value} {T : Tr} {l : List Tup} (h : MapL w ov T l) (hn : l.length ≤ 900000) (hp : fpre ⟨a, b, c, d, e, f, x⟩ = 4) (hz : f.size ≤ 100) :
    Calls Tryz.prog 33 #[.agg #[ov, .pointer T.ad], .agg #[.string a, .string b, .string c, .string d, .string e, .string f, .bool x]] w fun r w' => r = .returned (.tuple #[.int .i64 (Tr.rk l ⟨a, b, c, d, e, f⟩ : Nat), .int .i64 (Tr.rk l ⟨a, b, c, d, e, (nxt f)⟩ : Nat)]) ∧ Below w.heap.size w w' := by
  obtain ⟨hA, hM, hF, hS0⟩ := span_world w ov T.ad a b c d e f x _ rfl
  have HA := hid hA
  have HM := hid hM
  have HF := hid hF
  have HR := hid hS0
  have HL := hid (h.below hA)
  have HN := hid hn
  have HP := hid (fun W => fprefix_v a b c d e f x 4 W hp)
  have hzz : ¬ 9223372036854775807 < f.size + 1 := by omega
  obtain ⟨y, hy⟩ : ∃ y, nxt f = y := ⟨_, rfl⟩
  have hadd : f ++ ⟨#[0]⟩ = y := hy
  rw [hy]
  obtain ⟨n1, h1⟩ : ∃ n1, Tr.rk l ⟨a, b, c, d, e, f⟩ = n1 := ⟨_, rfl⟩
  obtain ⟨n2, h2⟩ : ∃ n2, Tr.rk l ⟨a, b, c, d, e, y⟩ = n2 := ⟨_, rfl⟩
  rw [h1, h2]
  have HR1 := hid (fun W (h : MapL W ov T l) => rank_z a b c d e f h1 h hn)
  have HR2 := hid (fun W (h : MapL W ov T l) => rank_z a b c d e y h2 h hn)
  clear h hA hM hF hS0 hn hp hz hy h1 h2
  go_enter Tryz.func33, Tryz.ntmps33
  go_wp2_with fail
  refine (HP.out _).mono ?_
  rintro _ w1 ⟨rfl, hb1⟩
  generalize hA1 : ((((w.alloc (.cells #[ov, .pointer T.ad] 38 (0, 0))).alloc (.cells #[.string a, .string b, .string c, .string d, .string e, .string f, .bool x] 51 (0, 0))).alloc (.cells #[.string a, .string b, .string c, .string d, .string e, .string f] 48 (0, 0))).alloc (.cells #[.string a, .string b, .string c, .string d, .string e, .string f] 48 (0, 0))) = A1 at *
  generalize hq : w.heap.size = q at *
  have HQ := hid hq
  have HA1 := hid hA1
  clear hA1 hq
  have hr1 := (hb1.block _ (Array.getElem?_eq_some_iff.1 HR.out).1).trans HR.out
  obtain ⟨⟨f0, f1, f2, f3, f4, f5⟩, ⟨c0, c1, c2, c3, c4, c5⟩⟩ := res6 hr1 g_refl
  have HR1' := hid hr1
  have HM1 := hid (keep2 hb1 HM.out)
  have HF1 := hid (keep6 hb1 HF.out)
  have HL1 := hid (HL.out.below hb1)
  have HB1 := hid hb1
  clear hb1 hr1
  go_wp2_with fail
  obtain ⟨W, hW⟩ : ∃ W, w1.setCell ⟨q + 1 + 1 + 1, 5, none⟩ (.string y) = W := ⟨_, rfl⟩
  rw [hW]
  have hr2 : W.heap[q + 1 + 1 + 1]? = some (.cells #[.string a, .string b, .string c, .string d, .string e, .string y] 48 (0, 0)) := by rw [← hW]; exact six_set HR1'.out 5 (.string y)
  have cb := fun j => box_cell hr2 j
  have hS : W.drew.cell? ⟨q, 0, none⟩ = some ov ∧ W.drew.cell? ⟨q, 1, none⟩ = some (.pointer T.ad) ∧ W.drew.cell? ⟨q + 1 + 1, 0, none⟩ = some (.string a) ∧ W.drew.cell? ⟨q + 1 + 1, 1, none⟩ = some (.string b) ∧ W.drew.cell? ⟨q + 1 + 1, 2, none⟩ = some (.string c) ∧ W.drew.cell? ⟨q + 1 + 1, 3, none⟩ = some (.string d) ∧ W.drew.cell? ⟨q + 1 + 1, 4, none⟩ = some (.string e) ∧ W.drew.cell? ⟨q + 1 + 1, 5, none⟩ = some (.string f) ∧ W.drew.cell? ⟨q + 1 + 1 + 1, 0, none⟩ = some (.string a) ∧ W.drew.cell? ⟨q + 1 + 1 + 1, 1, none⟩ = some (.string b) ∧ W.drew.cell? ⟨q + 1 + 1 + 1, 2, none⟩ = some (.string c) ∧ W.drew.cell? ⟨q + 1 + 1 + 1, 3, none⟩ = some (.string d) ∧ W.drew.cell? ⟨q + 1 + 1 + 1, 4, none⟩ = some (.string e) ∧ W.drew.cell? ⟨q + 1 + 1 + 1, 5, none⟩ = some (.string y) := by
    obtain ⟨m0, m1⟩ := HM1.out
    obtain ⟨n0, n1, n2, n3, n4, n5⟩ := HF1.out
    refine ⟨?_, ?_, ?_, ?_, ?_, ?_, ?_, ?_, (cb 0).trans rfl, (cb 1).trans rfl, (cb 2).trans rfl, (cb 3).trans rfl, (cb 4).trans rfl, (cb 5).trans rfl⟩
    all_goals (show W.cell? _ = _; rw [← hW]; refine set_c (by omega) ?_; assumption)
  have HLW : Hid (MapL W.drew ov T l) := hid (by rw [← hW]; exact (HL1.out.bod (Bod.set HR1'.out _) (by decide)).below (g_drew g_refl))
  have HBW : Hid (Below q w W.drew) := hid (by
    rw [← hW]
    have h := HQ.out
    subst h
    exact g_drew (g_set (g_trans HA.out HB1.out) (by show w.heap.size ≤ w.heap.size + 1 + 1 + 1; omega) _))
  clear hW hr2 cb f0 f1 f2 f3 f4 f5 c0 c1 c2 c3 c4 c5 hadd hzz HR1' HM1 HF1 HL1 HB1 HL HA HM HF HR HP
  go_region_held3 (fun w' => w'.cell? ⟨q, 0, none⟩ = some ov ∧ w'.cell? ⟨q, 1, none⟩ = some (.pointer T.ad) ∧ w'.cell? ⟨q + 1 + 1, 0, none⟩ = some (.string a) ∧ w'.cell? ⟨q + 1 + 1, 1, none⟩ = some (.string b) ∧ w'.cell? ⟨q + 1 + 1, 2, none⟩ = some (.string c) ∧ w'.cell? ⟨q + 1 + 1, 3, none⟩ = some (.string d) ∧ w'.cell? ⟨q + 1 + 1, 4, none⟩ = some (.string e) ∧ w'.cell? ⟨q + 1 + 1, 5, none⟩ = some (.string f) ∧ w'.cell? ⟨q + 1 + 1 + 1, 0, none⟩ = some (.string a) ∧ w'.cell? ⟨q + 1 + 1 + 1, 1, none⟩ = some (.string b) ∧ w'.cell? ⟨q + 1 + 1 + 1, 2, none⟩ = some (.string c) ∧ w'.cell? ⟨q + 1 + 1 + 1, 3, none⟩ = some (.string d) ∧ w'.cell? ⟨q + 1 + 1 + 1, 4, none⟩ = some (.string e) ∧ w'.cell? ⟨q + 1 + 1 + 1, 5, none⟩ = some (.string y)) (first | with_reducible assumption | exact keep14 (by with_reducible assumption) (by with_reducible assumption))
    (first | (go_at_call 57; (with_reducible refine Calls.mono (HR1.out _ (by first | with_reducible exact HLW.out | with_reducible exact HLW.out.below hb4)) ?_); rintro _ w3 ⟨rfl, hb3⟩) | (go_at_call 57; (with_reducible refine Calls.mono (HR2.out _ (by first | with_reducible exact HLW.out | with_reducible exact HLW.out.below hb3)) ?_); rintro _ w4 ⟨rfl, hb4⟩))
  all_goals go_wp2
  all_goals go_ret2
  all_goals
    have h := HQ.out
    subst h
    exact ⟨rfl, by first | with_reducible exact g_trans (g_trans HBW.out hb3) hb4 | with_reducible exact g_trans (g_trans HBW.out hb4) hb3⟩
end Go.Proofs.YtgfgfggoofjeeaaGreat.DT
