/-
  THE CONTRACTS of New, Put, Drop, Get, Rank, At, Between, All, Depth (values: int), for whatever order is called.
-/
import Derived.Laws.EntriesVeiled
import Derived.Test.YthkceffnfhdjhaaDIRange
import Derived.Test.YthkceffnfhdjhaaDIRep
import Derived.Test.YthkceffnfhdjhaaDIRem
namespace Go.Proofs.Ythkceffnfhdjhaa.DI
open Go.RowKit Go.Deep
theorem ad_nil : (Tr.nil : Tr Int).ad = none := rfl
theorem ad_node {b : Nat} {l r : Tr Int} {k : Int} {v : Int} : (Tr.node b l k v r).ad = some ⟨b, 0, none⟩ := rfl
attribute [local go_sem] ad_nil ad_node

/-- what Put makes of the list -/
def putT (c : Int → Int → Int) (T : Tr Int) (k : Int) (v : Int) : List (Int × Int) :=
  match (Tr.look c k T).2 with
  | .nil => T.li.take (Tr.look c k T).1 ++ (k, v) :: T.li.drop (Tr.look c k T).1
  | .node _ _ k0 _ _ => T.li.set (Tr.look c k T).1 (k0, v)
/-- what Drop makes of the list -/
def dropT (c : Int → Int → Int) (T : Tr Int) (k : Int) : List (Int × Int) :=
  match (Tr.look c k T).2 with
  | .nil => T.li
  | .node _ _ _ _ _ => T.li.eraseIdx (Tr.look c k T).1
def GivesM (fn : Nat) (w : World) (p : Tr Int → Prop) (e : Ending) (w' : World) : Prop := ∃ T : Tr Int, e = .returned (.agg #[.func (.func fn) #[] #[], .pointer T.ad]) ∧ Lies w' T ∧ p T ∧ Below w.heap.size w w'
theorem fn_nil (fn : Nat) (W : World) : (Go.binOp BinOp.eql 23 (.func (.func fn) #[] #[]) .nilFunc).run Try.prog W = .ok (.bool false) W := by kernel_rfl
theorem Bod.set {w : World} {g o : Nat} {e : TypeId} {arr : Array Value} (h : w.heap[g]? = some (.cells arr e (0, 0))) (v : Value) : Bod e e w (w.setCell ⟨g, o, none⟩ v) := by
  refine ⟨by simp, fun b a t z hb n1 _ => ?_⟩
  have hne : b ≠ g := fun he => by rw [he, h] at hb; injection hb with hb; injection hb with _ hb _; exact n1 hb.symm
  exact (heap_setCell_other w ⟨g, o, none⟩ b v hne).trans hb
theorem set_two {w : World} {g : Nat} {e : TypeId} {x y : Value} (h : w.heap[g]? = some (.cells #[x, y] e (0, 0))) (u v : Value) :
    Bod e e w ((w.setCell ⟨g, 0, none⟩ u).setCell ⟨g, 1, none⟩ v) := by
  have h1 := Bod.set (o := 0) h u
  have h2 : (w.setCell ⟨g, 0, none⟩ u).heap[g]? = some (.cells (#[x, y].setIfInBounds 0 u) e (0, 0)) := heap_setCell_same w g 0 _ e u h
  exact h1.trans (Bod.set (o := 1) h2 v)
theorem box_frozen {w : World} {b : Nat} {t : TypeId} {arr : Array Value} (h : w.heap[b]? = some (.cells arr t (0, 0))) (i : Nat) : w.frozen? ⟨b, i, none⟩ = false := by
  simp [World.frozen?, h]

theorem keep3 {a b : World} {q x : Nat} {u v y : Value} (h : Below a.heap.size a b) (s : a.cell? ⟨q, 0, none⟩ = some u ∧ a.cell? ⟨q, 1, none⟩ = some v ∧ a.cell? ⟨x, 0, none⟩ = some y) : b.cell? ⟨q, 0, none⟩ = some u ∧ b.cell? ⟨q, 1, none⟩ = some v ∧ b.cell? ⟨x, 0, none⟩ = some y :=
  ⟨keep1 h s.1, keep1 h s.2.1, keep1 h s.2.2⟩

/-- a result's block with two cells, behind a call -/
theorem res2 {a b : World} {g : Nat} {t : TypeId} {x y : Value} (h : a.heap[g]? = some (.cells #[x, y] t (0, 0))) (k : Below a.heap.size a b) :
    b.heap[g]? = some (.cells #[x, y] t (0, 0)) ∧ b.cell? ⟨g, 0, none⟩ = some x ∧ b.cell? ⟨g, 1, none⟩ = some y ∧ b.frozen? ⟨g, 0, none⟩ = false ∧ b.frozen? ⟨g, 1, none⟩ = false := by
  have e := (k.block g (Array.getElem?_eq_some_iff.1 h).1).trans h
  exact ⟨e, (box_cell e 0).trans rfl, (box_cell e 1).trans rfl, box_frozen e 0, box_frozen e 1⟩

set_option maxRecDepth 20000 in
set_option maxHeartbeats 2000000 in
theorem put_any (fn : Nat) (c : Int → Int → Int) (hO : Ord fn c) (T : Tr Int) (k : Int) (v : Int) (w : World) (hT : Lies w T) (hb : T.Bal) (hs : T.sz ≤ 900000) :
    Calls Try.prog 10 #[.agg #[.func (.func fn) #[] #[], .pointer T.ad], .int .i64 k, (.int .i64 v)] w (GivesM fn w fun T' => T'.Bal ∧ T'.li = putT c T k v) := by
  have hA : Below w.heap.size w (w.alloc (.cells #[.func (.func fn) #[] #[], .pointer T.ad] 26 (0, 0))) := g_alloc g_refl _
  have HA := hid hA
  have hbp := box2p w (.func (.func fn) #[] #[]) (.pointer T.ad) 26
  have HBP := hid hbp
  have hB := g_alloc (g_refl (a := (w.alloc (.cells #[.func (.func fn) #[] #[], .pointer T.ad] 26 (0, 0))))) (.cells #[.nilFunc, .pointer none] 26 (0, 0))
  have HB := hid hB
  have hR : ((w.alloc (.cells #[.func (.func fn) #[] #[], .pointer T.ad] 26 (0, 0))).alloc (.cells #[.nilFunc, .pointer none] 26 (0, 0))).heap[w.heap.size + 1]? = some (.cells #[.nilFunc, .pointer none] 26 (0, 0)) := by
    have := alloc_new (w.alloc (.cells #[.func (.func fn) #[] #[], .pointer T.ad] 26 (0, 0))) (.cells #[.nilFunc, .pointer none] 26 (0, 0))
    rwa [show (w.alloc (.cells #[.func (.func fn) #[] #[], .pointer T.ad] 26 (0, 0))).heap.size = w.heap.size + 1 by simp] at this
  have HR := hid hR
  have HT := hid (hT.below (g_trans hA hB))
  have HSZ := hid (show (w.alloc (.cells #[.func (.func fn) #[] #[], .pointer T.ad] 26 (0, 0))).heap.size = w.heap.size + 1 by simp)
  have HS := hid hs
  have HBal := hid hb
  have HF := hid (find_any fn c hO T k _ HT.out (by omega))
  have hnil := fn_nil fn
  have hle := Tr.look_le c k T
  have HLE := hid hle
  have HND := hid (fun b l k0 v0 r => Tr.look_node c k T (b := b) (l := l) (k' := k0) (v := v0) (r := r))
  unfold putT
  generalize hN : (Tr.look c k T).2 = N at *
  generalize hI : (Tr.look c k T).1 = i at *
  have i0 : (0 : Int) ≤ (i : Int) := by omega
  clear hT hs hb hA hbp hB hR hle hN hI
  cases N with
  | nil =>
    go_enter Try.func10, Try.ntmps10
    go_wp2_with fail
    refine HF.out.mono ?_
    rintro _ w1 ⟨rfl, hb1, hl1⟩
    generalize hA1 : (w.alloc (.cells #[.func (.func fn) #[] #[], .pointer T.ad] 26 (0, 0))) = A1 at *
    generalize hq : w.heap.size = q at *
    have hb12 := g_trans HB.out hb1
    have HRES := hid (res2 HR.out hb1)
    have hk := keep2 hb12 HBP.out
    have HK := hid hk
    have HB12 := hid hb12
    have HB1 := hid hb1
    have HQ := hid hq
    clear hA1 hq hb12 hb1 hk
    have hLT := HT.out.below HB1.out
    have HLT := hid hLT
    clear hLT
    clear hl1
    have HLX : Hid (Lies w1.drew T) := hid (HLT.out.below (g_drew g_refl))
    have HCL := hid (insert_any T i k v w1.drew HLX.out HBal.out (by have := HS.out; omega) HLE.out)
    have HRX : Hid (w1.drew.heap[q + 1]? = some (.cells #[.nilFunc, .pointer none] 26 (0, 0))) := hid HRES.out.1
    have HAX : Hid (Below A1.heap.size A1 w1.drew) := hid (g_drew HB12.out)
    have HSS : Hid (w1.drew.cell? ⟨q, 0, none⟩ = some (.func (.func fn) #[] #[]) ∧ w1.drew.cell? ⟨q, 1, none⟩ = some (.pointer T.ad)) := hid HK.out
    go_wp2_with fail
    have hS := HSS.out
    go_region_held3 (fun w' => w'.cell? ⟨q, 0, none⟩ = some (.func (.func fn) #[] #[]) ∧ w'.cell? ⟨q, 1, none⟩ = some (.pointer T.ad)) (first | with_reducible assumption | exact keep2 (g_set (g_set (by with_reducible assumption) (Nat.le_of_eq HSZ.out) _) (Nat.le_of_eq HSZ.out) _) HBP.out)
      (first | (go_at_call 32; (with_reducible refine Calls.mono HCL.out ?_); rintro _ w2 ⟨T2, rfl, hT2, hp2, hb2⟩; have hres := res2 HRX.out hb2; obtain ⟨r0, r1, r2, f0, f1⟩ := hres; have hS2 := keep2 hb2 HSS.out; have hA2 := g_trans HAX.out hb2))
    all_goals go_wp2
    refine bodyPost_ret (v := .agg #[.func (.func fn) #[] #[], .pointer T2.ad]) ?_ rfl ?_
    · simp [results, Try.results10, go_sem, *]
    · have h := HQ.out
      subst h
      have hz := HSZ.out
      exact ⟨T2, rfl, hT2.bod (set_two r0 _ _) (by decide) (by decide), ⟨hp2.2.1, hp2.1⟩, g_trans HA.out (g_set (g_set hA2 (Nat.le_of_eq hz) _) (Nat.le_of_eq hz) _)⟩
  | node b l k0 v0 r =>
    go_enter Try.func10, Try.ntmps10
    go_wp2_with fail
    refine HF.out.mono ?_
    rintro _ w1 ⟨rfl, hb1, hl1⟩
    generalize hA1 : (w.alloc (.cells #[.func (.func fn) #[] #[], .pointer T.ad] 26 (0, 0))) = A1 at *
    generalize hq : w.heap.size = q at *
    have hb12 := g_trans HB.out hb1
    have HRES := hid (res2 HR.out hb1)
    have hk := keep2 hb12 HBP.out
    have HK := hid hk
    have HB12 := hid hb12
    have HB1 := hid hb1
    have HQ := hid hq
    clear hA1 hq hb12 hb1 hk
    have hLT := HT.out.below HB1.out
    have HLT := hid hLT
    clear hLT
    replace hl1 : Lies w1 (Tr.node b l k0 v0 r) := hl1
    have hs0 := hl1.six.1
    have HNX : Hid (Lies w1.drew (Tr.node b l k0 v0 r)) := hid (hl1.below (g_drew g_refl))
    clear hl1
    have HLX : Hid (Lies w1.drew T) := hid (HLT.out.below (g_drew g_refl))
    have HCL := hid (replace_any T i k0 v w1.drew HLX.out HBal.out (by have := HS.out; omega) (HND.out _ _ _ _ _ rfl).2)
    have HRX : Hid (w1.drew.heap[q + 1]? = some (.cells #[.nilFunc, .pointer none] 26 (0, 0))) := hid HRES.out.1
    have HAX : Hid (Below A1.heap.size A1 w1.drew) := hid (g_drew HB12.out)
    have HSS : Hid (w1.drew.cell? ⟨q, 0, none⟩ = some (.func (.func fn) #[] #[]) ∧ w1.drew.cell? ⟨q, 1, none⟩ = some (.pointer T.ad) ∧ w1.drew.cell? ⟨b, 0, none⟩ = some (.int .i64 k0)) := hid ⟨HK.out.1, HK.out.2, hs0⟩
    clear hs0
    go_wp2_with fail
    have hS := HSS.out
    go_region_held3 (fun w' => w'.cell? ⟨q, 0, none⟩ = some (.func (.func fn) #[] #[]) ∧ w'.cell? ⟨q, 1, none⟩ = some (.pointer T.ad) ∧ w'.cell? ⟨b, 0, none⟩ = some (.int .i64 k0)) (first | with_reducible assumption | exact ⟨(keep2 (g_set (g_set (by with_reducible assumption) (Nat.le_of_eq HSZ.out) _) (Nat.le_of_eq HSZ.out) _) HBP.out).1, (keep2 (g_set (g_set (by with_reducible assumption) (Nat.le_of_eq HSZ.out) _) (Nat.le_of_eq HSZ.out) _) HBP.out).2, hS3 _ _⟩)
      (first | (go_at_call 33; (with_reducible refine Calls.mono HCL.out ?_); rintro _ w2 ⟨T2, rfl, hT2, hp2, hb2⟩; have hres := res2 HRX.out hb2; obtain ⟨r0, r1, r2, f0, f1⟩ := hres; have hS2 := keep3 hb2 HSS.out; have hA2 := g_trans HAX.out hb2; have hS3 := (fun u v => ((HNX.out.below hb2).bod (set_two r0 u v) (by decide) (by decide)).six.1)))
    all_goals go_wp2
    refine bodyPost_ret (v := .agg #[.func (.func fn) #[] #[], .pointer T2.ad]) ?_ rfl ?_
    · simp [results, Try.results10, go_sem, *]
    · have h := HQ.out
      subst h
      have hz := HSZ.out
      exact ⟨T2, rfl, hT2.bod (set_two r0 _ _) (by decide) (by decide), ⟨hp2.2.1, hp2.1⟩, g_trans HA.out (g_set (g_set hA2 (Nat.le_of_eq hz) _) (Nat.le_of_eq hz) _)⟩

set_option maxRecDepth 20000 in
set_option maxHeartbeats 2000000 in
theorem drop_any (fn : Nat) (c : Int → Int → Int) (hO : Ord fn c) (T : Tr Int) (k : Int) (w : World) (hT : Lies w T) (hb : T.Bal) (hs : T.sz ≤ 900000) :
    Calls Try.prog 12 #[.agg #[.func (.func fn) #[] #[], .pointer T.ad], .int .i64 k] w (GivesM fn w fun T' => T'.Bal ∧ T'.li = dropT c T k) := by
  have hA : Below w.heap.size w (w.alloc (.cells #[.func (.func fn) #[] #[], .pointer T.ad] 26 (0, 0))) := g_alloc g_refl _
  have HA := hid hA
  have hbp := box2p w (.func (.func fn) #[] #[]) (.pointer T.ad) 26
  have HBP := hid hbp
  have hB := g_alloc (g_refl (a := (w.alloc (.cells #[.func (.func fn) #[] #[], .pointer T.ad] 26 (0, 0))))) (.cells #[.nilFunc, .pointer none] 26 (0, 0))
  have HB := hid hB
  have hR : ((w.alloc (.cells #[.func (.func fn) #[] #[], .pointer T.ad] 26 (0, 0))).alloc (.cells #[.nilFunc, .pointer none] 26 (0, 0))).heap[w.heap.size + 1]? = some (.cells #[.nilFunc, .pointer none] 26 (0, 0)) := by
    have := alloc_new (w.alloc (.cells #[.func (.func fn) #[] #[], .pointer T.ad] 26 (0, 0))) (.cells #[.nilFunc, .pointer none] 26 (0, 0))
    rwa [show (w.alloc (.cells #[.func (.func fn) #[] #[], .pointer T.ad] 26 (0, 0))).heap.size = w.heap.size + 1 by simp] at this
  have HR := hid hR
  have HT := hid (hT.below (g_trans hA hB))
  have HSZ := hid (show (w.alloc (.cells #[.func (.func fn) #[] #[], .pointer T.ad] 26 (0, 0))).heap.size = w.heap.size + 1 by simp)
  have HS := hid hs
  have HBal := hid hb
  have HF := hid (find_any fn c hO T k _ HT.out (by omega))
  have hle := Tr.look_le c k T
  have HLE := hid hle
  have HND := hid (fun b l k0 v0 r => Tr.look_node c k T (b := b) (l := l) (k' := k0) (v := v0) (r := r))
  unfold dropT
  generalize hN : (Tr.look c k T).2 = N at *
  generalize hI : (Tr.look c k T).1 = i at *
  have i0 : (0 : Int) ≤ (i : Int) := by omega
  clear hT hs hb hA hbp hB hR hle hN hI
  cases N with
  | nil =>
    go_enter Try.func12, Try.ntmps12
    go_wp2_with fail
    refine HF.out.mono ?_
    rintro _ w1 ⟨rfl, hb1, hl1⟩
    generalize hA1 : (w.alloc (.cells #[.func (.func fn) #[] #[], .pointer T.ad] 26 (0, 0))) = A1 at *
    generalize hq : w.heap.size = q at *
    have hb12 := g_trans HB.out hb1
    have HRES := hid (res2 HR.out hb1)
    have hk := keep2 hb12 HBP.out
    have HK := hid hk
    have HB12 := hid hb12
    have HB1 := hid hb1
    have HQ := hid hq
    clear hA1 hq hb12 hb1 hk
    have hLT := HT.out.below HB1.out
    have HLT := hid hLT
    clear hLT
    clear hl1
    obtain ⟨k0, k1⟩ := HK.out
    obtain ⟨r0, r1, r2, f0, f1⟩ := HRES.out
    clear r0
    go_wp2
    refine bodyPost_ret (v := .agg #[.func (.func fn) #[] #[], .pointer T.ad]) ?_ rfl ?_
    · simp [results, Try.results12, go_sem, *]
    · have h := HQ.out
      subst h
      have hz := HSZ.out
      exact ⟨T, rfl, HLT.out.bod (set_two HRES.out.1 _ _) (by decide) (by decide), ⟨HBal.out, rfl⟩, g_trans HA.out (g_set (g_set HB12.out (Nat.le_of_eq hz) _) (Nat.le_of_eq hz) _)⟩
  | node b l k0 v0 r =>
    go_enter Try.func12, Try.ntmps12
    go_wp2_with fail
    refine HF.out.mono ?_
    rintro _ w1 ⟨rfl, hb1, hl1⟩
    generalize hA1 : (w.alloc (.cells #[.func (.func fn) #[] #[], .pointer T.ad] 26 (0, 0))) = A1 at *
    generalize hq : w.heap.size = q at *
    have hb12 := g_trans HB.out hb1
    have HRES := hid (res2 HR.out hb1)
    have hk := keep2 hb12 HBP.out
    have HK := hid hk
    have HB12 := hid hb12
    have HB1 := hid hb1
    have HQ := hid hq
    clear hA1 hq hb12 hb1 hk
    have hLT := HT.out.below HB1.out
    have HLT := hid hLT
    clear hLT
    replace hl1 : Lies w1 (Tr.node b l k0 v0 r) := hl1
    clear hl1
    have HLX : Hid (Lies w1.drew T) := hid (HLT.out.below (g_drew g_refl))
    have HCL := hid (remove_any T i w1.drew HLX.out HBal.out (by have := HS.out; omega) (HND.out _ _ _ _ _ rfl).2)
    have HRX : Hid (w1.drew.heap[q + 1]? = some (.cells #[.nilFunc, .pointer none] 26 (0, 0))) := hid HRES.out.1
    have HAX : Hid (Below A1.heap.size A1 w1.drew) := hid (g_drew HB12.out)
    have HSS : Hid (w1.drew.cell? ⟨q, 0, none⟩ = some (.func (.func fn) #[] #[]) ∧ w1.drew.cell? ⟨q, 1, none⟩ = some (.pointer T.ad)) := hid HK.out
    go_wp2_with fail
    have hS := HSS.out
    go_region_held3 (fun w' => w'.cell? ⟨q, 0, none⟩ = some (.func (.func fn) #[] #[]) ∧ w'.cell? ⟨q, 1, none⟩ = some (.pointer T.ad)) (first | with_reducible assumption | exact keep2 (g_set (g_set (by with_reducible assumption) (Nat.le_of_eq HSZ.out) _) (Nat.le_of_eq HSZ.out) _) HBP.out)
      (first | (go_at_call 34; (with_reducible refine Calls.mono HCL.out ?_); rintro _ w2 ⟨T2, rfl, hT2, hp2, hb2⟩; have hres := res2 HRX.out hb2; obtain ⟨r0, r1, r2, f0, f1⟩ := hres; have hS2 := keep2 hb2 HSS.out; have hA2 := g_trans HAX.out hb2))
    all_goals go_wp2
    refine bodyPost_ret (v := .agg #[.func (.func fn) #[] #[], .pointer T2.ad]) ?_ rfl ?_
    · simp [results, Try.results12, go_sem, *]
    · have h := HQ.out
      subst h
      have hz := HSZ.out
      exact ⟨T2, rfl, hT2.bod (set_two r0 _ _) (by decide) (by decide), ⟨hp2.2.1, hp2.1⟩, g_trans HA.out (g_set (g_set hA2 (Nat.le_of_eq hz) _) (Nat.le_of_eq hz) _)⟩

end Go.Proofs.Ythkceffnfhdjhaa.DI
