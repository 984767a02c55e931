/-
  THE CONTRACTS of sets' Has and With.
-/
import Derived.Test.YtgfgfggoofjeeaaGreatDTList
import Derived.Test.YtgfgfggoofjeeaaGreatTTc
namespace Go.Proofs.YtgfgfggoofjeeaaGreat.DT
open Go.RowKit Go.Deep

theorem set_world (w : World) (ov : Value) (p : Option Addr) (k : Tup) (W : World) (hW : W = (w.alloc (.cells #[ov, .pointer p] 38 (0, 0))).alloc (.cells #[.string k.a, .string k.b, .string k.c, .string k.d, .string k.e, .string k.f] 48 (0, 0))) :
    Below w.heap.size w W ∧ (W.cell? ⟨w.heap.size, 0, none⟩ = some ov ∧ W.cell? ⟨w.heap.size, 1, none⟩ = some (.pointer p)) ∧ (W.cell? ⟨w.heap.size + 1, 0, none⟩ = some (.string k.a) ∧ W.cell? ⟨w.heap.size + 1, 1, none⟩ = some (.string k.b) ∧ W.cell? ⟨w.heap.size + 1, 2, none⟩ = some (.string k.c) ∧ W.cell? ⟨w.heap.size + 1, 3, none⟩ = some (.string k.d) ∧ W.cell? ⟨w.heap.size + 1, 4, none⟩ = some (.string k.e) ∧ W.cell? ⟨w.heap.size + 1, 5, none⟩ = some (.string k.f)) := by
  obtain ⟨w1, h1⟩ : ∃ w1, w.alloc (.cells #[ov, .pointer p] 38 (0, 0)) = w1 := ⟨_, rfl⟩
  have s1 : w1.heap.size = w.heap.size + 1 := by rw [← h1]; simp
  have b1 : Below w.heap.size w w1 := by rw [← h1]; exact g_alloc g_refl _
  have m := box2p w ov (.pointer p) 38
  rw [h1] at m
  have n := box6p w1 k 48
  rw [h1] at hW
  rw [← hW, s1] at n
  have b2 : Below w1.heap.size w1 W := by rw [hW]; exact g_alloc g_refl _
  exact ⟨g_trans b1 b2, keep2 b2 m, n⟩
set_option maxRecDepth 20000 in
set_option maxHeartbeats 1000000 in
theorem has_l (k : Tup) (z : Bool) {w : World} {ov : Value} {T : Tr} {l : List Tup} (hz : decide (k ∈ l) = z) (h : MapL w ov T l) (hn : l.length ≤ 900000) :
    Calls Tryz.prog 18 #[.agg #[ov, .pointer T.ad], .agg #[.string k.a, .string k.b, .string k.c, .string k.d, .string k.e, .string k.f]] w fun e w' => e = .returned (.bool z) ∧ Below w.heap.size w w' := by
  obtain ⟨hA, -, -⟩ := set_world w ov T.ad k _ rfl
  have HA := hid hA
  have HG := hid (get_l k z hz (h.below hA) hn)
  clear h hA hz hn
  go_enter Tryz.func18, Tryz.ntmps18
  go_wp2_with fail
  refine HG.out.mono ?_
  rintro _ w1 ⟨rfl, hb1⟩
  go_wp2
  go_ret
  exact ⟨rfl, g_alloc (g_trans HA.out hb1) _⟩

/-- what With makes of a list, and the number of its error -/
def wth (l : List Tup) (k : Tup) (d : Bool) : List Tup × Int :=
  if okT k = false then ([], 6) else if d = true then (Tr.del k l, 0) else if k ∈ l then (l, 0) else if 4096 ≤ l.length then ([], 3) else (ins cmpT k l, 0)
def GivesS (w : World) (r : List Tup × Int) (e : Ending) (w' : World) : Prop := ∃ (ov : Value) (T : Tr), e = .returned (.tuple #[.agg #[ov, .pointer T.ad], .int .i64 r.2]) ∧ MapL w' ov T r.1 ∧ Below w.heap.size w w'
theorem with_world (w : World) (ov : Value) (p : Option Addr) (k : Tup) (d : Bool) (W : World) (hW : W = ((w.alloc (.cells #[ov, .pointer p] 38 (0, 0))).alloc (.cells #[.string k.a, .string k.b, .string k.c, .string k.d, .string k.e, .string k.f, .bool d] 69 (0, 0))).alloc (.cells #[.nilFunc, .pointer none] 38 (0, 0))) :
    Below w.heap.size w W ∧ (W.cell? ⟨w.heap.size, 0, none⟩ = some ov ∧ W.cell? ⟨w.heap.size, 1, none⟩ = some (.pointer p) ∧ W.cell? ⟨w.heap.size + 1, 0, none⟩ = some (.string k.a) ∧ W.cell? ⟨w.heap.size + 1, 1, none⟩ = some (.string k.b) ∧ W.cell? ⟨w.heap.size + 1, 2, none⟩ = some (.string k.c) ∧ W.cell? ⟨w.heap.size + 1, 3, none⟩ = some (.string k.d) ∧ W.cell? ⟨w.heap.size + 1, 4, none⟩ = some (.string k.e) ∧ W.cell? ⟨w.heap.size + 1, 5, none⟩ = some (.string k.f) ∧ W.cell? ⟨w.heap.size + 1, 6, none⟩ = some (.bool d)) ∧
      W.heap[w.heap.size + 1 + 1]? = some (.cells #[.nilFunc, .pointer none] 38 (0, 0)) ∧ W.heap[w.heap.size]? = some (.cells #[ov, .pointer p] 38 (0, 0)) := by
  obtain ⟨w1, h1⟩ : ∃ w1, w.alloc (.cells #[ov, .pointer p] 38 (0, 0)) = w1 := ⟨_, rfl⟩
  obtain ⟨w2, h2⟩ : ∃ w2, w1.alloc (.cells #[.string k.a, .string k.b, .string k.c, .string k.d, .string k.e, .string k.f, .bool d] 69 (0, 0)) = w2 := ⟨_, rfl⟩
  have s1 : w1.heap.size = w.heap.size + 1 := by rw [← h1]; simp
  have s2 : w2.heap.size = w.heap.size + 1 + 1 := by rw [← h2, ← s1]; simp
  have b1 : Below w.heap.size w w1 := by rw [← h1]; exact g_alloc g_refl _
  have b2 : Below w1.heap.size w1 w2 := by rw [← h2]; exact g_alloc g_refl _
  rw [h1, h2] at hW
  have b3 : Below w2.heap.size w2 W := by rw [hW]; exact g_alloc g_refl _
  have m := new_at w (.cells #[ov, .pointer p] 38 (0, 0))
  rw [h1] at m
  have m2 := ((g_trans b2 b3).block _ (Array.getElem?_eq_some_iff.1 m).1).trans m
  have n := new_at w1 (.cells #[.string k.a, .string k.b, .string k.c, .string k.d, .string k.e, .string k.f, .bool d] 69 (0, 0))
  rw [h2, s1] at n
  have n2 := (b3.block _ (Array.getElem?_eq_some_iff.1 n).1).trans n
  have r := new_at w2 (.cells #[.nilFunc, .pointer none] 38 (0, 0))
  rw [← hW, s2] at r
  have c := fun j => box_cell m2 j
  have e := fun j => box_cell n2 j
  exact ⟨g_trans (g_trans b1 b2) b3, ⟨(c 0).trans rfl, (c 1).trans rfl, (e 0).trans rfl, (e 1).trans rfl, (e 2).trans rfl, (e 3).trans rfl, (e 4).trans rfl, (e 5).trans rfl, (e 6).trans rfl⟩, r, m2⟩
theorem tcheck_e (x : Tup) (k : Int) (w : World) (hx : Fits x) (h : err (okT x) = k) :
    Calls Tryz.prog 47 #[.agg #[.string x.a, .string x.b, .string x.c, .string x.d, .string x.e, .string x.f]] w fun e w' => e = .returned (.int .i64 k) ∧ Below w.heap.size w w' := by subst h; exact tcheck x w hx
theorem MapL.bod {w w' : World} {ov : Value} {T : Tr} {l : List Tup} {e : TypeId} (h : MapL w ov T l) (hb : Bod e w w') (hn : 117 ≠ e) : MapL w' ov T l := ⟨h.lies.bod hb hn, h.bal, h.li, h.asc, h.ov⟩
theorem keep9 {a b : World} {p0 p1 p2 p3 p4 p5 p6 p7 p8 o0 o1 o2 o3 o4 o5 o6 o7 o8 : Nat} {x0 x1 x2 x3 x4 x5 x6 x7 x8 : Value} (h : Below a.heap.size a b)
    (s : a.cell? ⟨p0, o0, none⟩ = some x0 ∧ a.cell? ⟨p1, o1, none⟩ = some x1 ∧ a.cell? ⟨p2, o2, none⟩ = some x2 ∧ a.cell? ⟨p3, o3, none⟩ = some x3 ∧ a.cell? ⟨p4, o4, none⟩ = some x4 ∧ a.cell? ⟨p5, o5, none⟩ = some x5 ∧ a.cell? ⟨p6, o6, none⟩ = some x6 ∧ a.cell? ⟨p7, o7, none⟩ = some x7 ∧ a.cell? ⟨p8, o8, none⟩ = some x8) :
    b.cell? ⟨p0, o0, none⟩ = some x0 ∧ b.cell? ⟨p1, o1, none⟩ = some x1 ∧ b.cell? ⟨p2, o2, none⟩ = some x2 ∧ b.cell? ⟨p3, o3, none⟩ = some x3 ∧ b.cell? ⟨p4, o4, none⟩ = some x4 ∧ b.cell? ⟨p5, o5, none⟩ = some x5 ∧ b.cell? ⟨p6, o6, none⟩ = some x6 ∧ b.cell? ⟨p7, o7, none⟩ = some x7 ∧ b.cell? ⟨p8, o8, none⟩ = some x8 :=
  ⟨keep1 h s.1, keep1 h s.2.1, keep1 h s.2.2.1, keep1 h s.2.2.2.1, keep1 h s.2.2.2.2.1, keep1 h s.2.2.2.2.2.1, keep1 h s.2.2.2.2.2.2.1, keep1 h s.2.2.2.2.2.2.2.1, keep1 h s.2.2.2.2.2.2.2.2⟩

set_option maxRecDepth 20000 in
set_option maxHeartbeats 2000000 in
theorem with_bad0 {w : World} {ov : Value} {T : Tr} (k : Tup) (hk : Fits k) (d : Bool) (ho : okT k = false) :
    Calls Tryz.prog 22 #[.agg #[ov, .pointer T.ad], .agg #[.string k.a, .string k.b, .string k.c, .string k.d, .string k.e, .string k.f, .bool d]] w fun e w' => e = .returned (.tuple #[.agg #[.nilFunc, .pointer none], .int .i64 6]) ∧ Below w.heap.size w w' := by
  obtain ⟨hA, hS, hR, hM⟩ := with_world w ov T.ad k d _ rfl
  have HA := hid hA
  have HS := hid hS
  have HR := hid hR
  have HM := hid hM
  have HC := hid (fun W => tcheck_e k 6 W hk (by rw [ho]; rfl))
  clear hA hS hR hM hk ho
  go_enter Tryz.func22, Tryz.ntmps22
  go_wp2_with fail
  refine (HC.out _).mono ?_
  rintro _ w1 ⟨rfl, hb1⟩
  obtain ⟨r0, r1, r2, f0, f1⟩ := res2 HR.out hb1
  have HB := hid (g_trans HA.out hb1)
  clear r0 hb1
  go_wp2
  refine bodyPost_ret (v := .tuple #[.agg #[.nilFunc, .pointer none], .int .i64 6]) ?_ rfl ?_
  · simp [results, Tryz.results22, go_sem, *]
  · exact ⟨rfl, g_set (g_set HB.out (by show w.heap.size ≤ w.heap.size + 1 + 1; omega) _) (by show w.heap.size ≤ w.heap.size + 1 + 1; omega) _⟩
theorem with_bad {w : World} {ov : Value} {T : Tr} (k : Tup) (hk : Fits k) (d : Bool) (ho : okT k = false) :
    Calls Tryz.prog 22 #[.agg #[ov, .pointer T.ad], .agg #[.string k.a, .string k.b, .string k.c, .string k.d, .string k.e, .string k.f, .bool d]] w (GivesS w ([], 6)) :=
  (with_bad0 k hk d ho).mono fun _ _ h => ⟨.nilFunc, .nil, h.1, MapL.zero _, h.2⟩
set_option maxRecDepth 20000 in
set_option maxHeartbeats 2000000 in
theorem with_in {w : World} {T : Tr} {l : List Tup} (k : Tup) (hk : Fits k) (h : MapL w (.func (.func 50) #[] #[]) T l) (hn : l.length ≤ 900000) (ho : okT k = true) (hz : decide (k ∈ l) = true) :
    Calls Tryz.prog 22 #[.agg #[(.func (.func 50) #[] #[]), .pointer T.ad], .agg #[.string k.a, .string k.b, .string k.c, .string k.d, .string k.e, .string k.f, .bool false]] w (GivesS w (l, 0)) := by
  obtain ⟨hA, hS, hR, hM⟩ := with_world w (.func (.func 50) #[] #[]) T.ad k false _ rfl
  have HA := hid hA
  have HS := hid hS
  have HR := hid hR
  have HM := hid hM
  have HC := hid (fun W => tcheck_e k 0 W hk (by rw [ho]; rfl))
  have HL := hid (h.below hA)
  have HN := hid hn
  have HZ := hid hz
  clear hA hS hR hM hk ho h hn hz
  go_enter Tryz.func22, Tryz.ntmps22
  go_wp2_with fail
  refine (HC.out _).mono ?_
  rintro _ w1 ⟨rfl, hb1⟩
  generalize hA1 : (((w.alloc (.cells #[(.func (.func 50) #[] #[]), .pointer T.ad] 38 (0, 0))).alloc (.cells #[.string k.a, .string k.b, .string k.c, .string k.d, .string k.e, .string k.f, .bool false] 69 (0, 0))).alloc (.cells #[.nilFunc, .pointer none] 38 (0, 0))) = A1 at *
  generalize hq : w.heap.size = q at *
  have HQ := hid hq
  clear hA1 hq
  have HS1 := hid (keep9 (g_drew hb1) HS.out)
  have hS := HS1.out
  have HL1 := hid ((HL.out.below (g_drew hb1)))
  have HB := hid (g_drew hb1)
  have HR1 : Hid (w1.drew.heap[q + 1 + 1]? = some (.cells #[.nilFunc, .pointer none] 38 (0, 0))) := hid ((hb1.block _ (Array.getElem?_eq_some_iff.1 HR.out).1).trans HR.out)
  clear hb1
  go_wp2_with fail
  go_region_held3 (fun w' => w'.cell? ⟨q, 0, none⟩ = some (.func (.func 50) #[] #[]) ∧ w'.cell? ⟨q, 1, none⟩ = some (.pointer T.ad) ∧ w'.cell? ⟨q + 1, 0, none⟩ = some (.string k.a) ∧ w'.cell? ⟨q + 1, 1, none⟩ = some (.string k.b) ∧ w'.cell? ⟨q + 1, 2, none⟩ = some (.string k.c) ∧ w'.cell? ⟨q + 1, 3, none⟩ = some (.string k.d) ∧ w'.cell? ⟨q + 1, 4, none⟩ = some (.string k.e) ∧ w'.cell? ⟨q + 1, 5, none⟩ = some (.string k.f) ∧ w'.cell? ⟨q + 1, 6, none⟩ = some (.bool false)) (first | with_reducible assumption | exact keep9 (by with_reducible assumption) (by with_reducible assumption))
    (first | (go_at_call 18; (with_reducible refine Calls.mono (has_l k _ HZ.out HL1.out HN.out) ?_); rintro _ w2 ⟨rfl, hb2⟩))
  have HS2 := hid (keep9 hb2 HS1.out)
  have HR2 := hid ((hb2.block _ (Array.getElem?_eq_some_iff.1 HR1.out).1).trans HR1.out)
  have HL2 := hid (HL1.out.below hb2)
  have HB2 := hid (g_trans HB.out hb2)
  clear hS HS1 HR1 HL1 HB hb2 HC HS HR HL
  obtain ⟨s0, s1, s2, s3, s4, s5, s6, s7, s8⟩ := HS2.out
  obtain ⟨r0, r1, r2, f0, f1⟩ := res2 HR2.out g_refl
  clear r0
  go_wp2
  refine bodyPost_ret (v := .tuple #[.agg #[(.func (.func 50) #[] #[]), .pointer T.ad], .int .i64 0]) ?_ rfl ?_
  · simp [results, Tryz.results22, go_sem, *]
  · have h := HQ.out
    subst h
    exact ⟨(.func (.func 50) #[] #[]), T, rfl, HL2.out.bod (set_two HR2.out _ _) (by decide), g_set (g_set (g_trans HA.out HB2.out) (by show w.heap.size ≤ w.heap.size + 1 + 1; omega) _) (by show w.heap.size ≤ w.heap.size + 1 + 1; omega) _⟩
set_option maxRecDepth 20000 in
set_option maxHeartbeats 2000000 in
theorem with_outF {w : World} {T : Tr} {l : List Tup} (k : Tup) (hk : Fits k) (h : MapL w (.func (.func 50) #[] #[]) T l) (hn : l.length ≤ 900000) (ho : okT k = true) (hz : decide (k ∈ l) = false) :
    Calls Tryz.prog 22 #[.agg #[(.func (.func 50) #[] #[]), .pointer T.ad], .agg #[.string k.a, .string k.b, .string k.c, .string k.d, .string k.e, .string k.f, .bool true]] w (GivesS w (l, 0)) := by
  obtain ⟨hA, hS, hR, hM⟩ := with_world w (.func (.func 50) #[] #[]) T.ad k true _ rfl
  have HA := hid hA
  have HS := hid hS
  have HR := hid hR
  have HM := hid hM
  have HC := hid (fun W => tcheck_e k 0 W hk (by rw [ho]; rfl))
  have HL := hid (h.below hA)
  have HN := hid hn
  have HZ := hid hz
  clear hA hS hR hM hk ho h hn hz
  go_enter Tryz.func22, Tryz.ntmps22
  go_wp2_with fail
  refine (HC.out _).mono ?_
  rintro _ w1 ⟨rfl, hb1⟩
  generalize hA1 : (((w.alloc (.cells #[(.func (.func 50) #[] #[]), .pointer T.ad] 38 (0, 0))).alloc (.cells #[.string k.a, .string k.b, .string k.c, .string k.d, .string k.e, .string k.f, .bool true] 69 (0, 0))).alloc (.cells #[.nilFunc, .pointer none] 38 (0, 0))) = A1 at *
  generalize hq : w.heap.size = q at *
  have HQ := hid hq
  clear hA1 hq
  have HS1 := hid (keep9 (g_drew hb1) HS.out)
  have hS := HS1.out
  have HL1 := hid ((HL.out.below (g_drew hb1)))
  have HB := hid (g_drew hb1)
  have HR1 : Hid (w1.drew.heap[q + 1 + 1]? = some (.cells #[.nilFunc, .pointer none] 38 (0, 0))) := hid ((hb1.block _ (Array.getElem?_eq_some_iff.1 HR.out).1).trans HR.out)
  clear hb1
  go_wp2_with fail
  go_region_held3 (fun w' => w'.cell? ⟨q, 0, none⟩ = some (.func (.func 50) #[] #[]) ∧ w'.cell? ⟨q, 1, none⟩ = some (.pointer T.ad) ∧ w'.cell? ⟨q + 1, 0, none⟩ = some (.string k.a) ∧ w'.cell? ⟨q + 1, 1, none⟩ = some (.string k.b) ∧ w'.cell? ⟨q + 1, 2, none⟩ = some (.string k.c) ∧ w'.cell? ⟨q + 1, 3, none⟩ = some (.string k.d) ∧ w'.cell? ⟨q + 1, 4, none⟩ = some (.string k.e) ∧ w'.cell? ⟨q + 1, 5, none⟩ = some (.string k.f) ∧ w'.cell? ⟨q + 1, 6, none⟩ = some (.bool true)) (first | with_reducible assumption | exact keep9 (by with_reducible assumption) (by with_reducible assumption))
    (first | (go_at_call 18; (with_reducible refine Calls.mono (has_l k _ HZ.out HL1.out HN.out) ?_); rintro _ w2 ⟨rfl, hb2⟩))
  have HS2 := hid (keep9 hb2 HS1.out)
  have HR2 := hid ((hb2.block _ (Array.getElem?_eq_some_iff.1 HR1.out).1).trans HR1.out)
  have HL2 := hid (HL1.out.below hb2)
  have HB2 := hid (g_trans HB.out hb2)
  clear hS HS1 HR1 HL1 HB hb2 HC HS HR HL
  obtain ⟨s0, s1, s2, s3, s4, s5, s6, s7, s8⟩ := HS2.out
  obtain ⟨r0, r1, r2, f0, f1⟩ := res2 HR2.out g_refl
  clear r0
  go_wp2
  refine bodyPost_ret (v := .tuple #[.agg #[(.func (.func 50) #[] #[]), .pointer T.ad], .int .i64 0]) ?_ rfl ?_
  · simp [results, Tryz.results22, go_sem, *]
  · have h := HQ.out
    subst h
    exact ⟨(.func (.func 50) #[] #[]), T, rfl, HL2.out.bod (set_two HR2.out _ _) (by decide), g_set (g_set (g_trans HA.out HB2.out) (by show w.heap.size ≤ w.heap.size + 1 + 1; omega) _) (by show w.heap.size ≤ w.heap.size + 1 + 1; omega) _⟩
set_option maxRecDepth 20000 in
set_option maxHeartbeats 2000000 in
theorem with_outN {w : World} {T : Tr} {l : List Tup} (k : Tup) (hk : Fits k) (h : MapL w .nilFunc T l) (hn : l.length ≤ 900000) (ho : okT k = true) (hz : decide (k ∈ l) = false) :
    Calls Tryz.prog 22 #[.agg #[.nilFunc, .pointer T.ad], .agg #[.string k.a, .string k.b, .string k.c, .string k.d, .string k.e, .string k.f, .bool true]] w (GivesS w (l, 0)) := by
  obtain ⟨hA, hS, hR, hM⟩ := with_world w .nilFunc T.ad k true _ rfl
  have HA := hid hA
  have HS := hid hS
  have HR := hid hR
  have HM := hid hM
  have HC := hid (fun W => tcheck_e k 0 W hk (by rw [ho]; rfl))
  have HL := hid (h.below hA)
  have HN := hid hn
  have HZ := hid hz
  clear hA hS hR hM hk ho h hn hz
  go_enter Tryz.func22, Tryz.ntmps22
  go_wp2_with fail
  refine (HC.out _).mono ?_
  rintro _ w1 ⟨rfl, hb1⟩
  generalize hA1 : (((w.alloc (.cells #[.nilFunc, .pointer T.ad] 38 (0, 0))).alloc (.cells #[.string k.a, .string k.b, .string k.c, .string k.d, .string k.e, .string k.f, .bool true] 69 (0, 0))).alloc (.cells #[.nilFunc, .pointer none] 38 (0, 0))) = A1 at *
  generalize hq : w.heap.size = q at *
  have HQ := hid hq
  clear hA1 hq
  have HS1 := hid (keep9 (g_drew hb1) HS.out)
  have hS := HS1.out
  have HL1 := hid ((HL.out.below (g_drew hb1)))
  have HB := hid (g_drew hb1)
  have HR1 : Hid (w1.drew.heap[q + 1 + 1]? = some (.cells #[.nilFunc, .pointer none] 38 (0, 0))) := hid ((hb1.block _ (Array.getElem?_eq_some_iff.1 HR.out).1).trans HR.out)
  clear hb1
  go_wp2_with fail
  go_region_held3 (fun w' => w'.cell? ⟨q, 0, none⟩ = some .nilFunc ∧ w'.cell? ⟨q, 1, none⟩ = some (.pointer T.ad) ∧ w'.cell? ⟨q + 1, 0, none⟩ = some (.string k.a) ∧ w'.cell? ⟨q + 1, 1, none⟩ = some (.string k.b) ∧ w'.cell? ⟨q + 1, 2, none⟩ = some (.string k.c) ∧ w'.cell? ⟨q + 1, 3, none⟩ = some (.string k.d) ∧ w'.cell? ⟨q + 1, 4, none⟩ = some (.string k.e) ∧ w'.cell? ⟨q + 1, 5, none⟩ = some (.string k.f) ∧ w'.cell? ⟨q + 1, 6, none⟩ = some (.bool true)) (first | with_reducible assumption | exact keep9 (by with_reducible assumption) (by with_reducible assumption))
    (first | (go_at_call 18; (with_reducible refine Calls.mono (has_l k _ HZ.out HL1.out HN.out) ?_); rintro _ w2 ⟨rfl, hb2⟩))
  have HS2 := hid (keep9 hb2 HS1.out)
  have HR2 := hid ((hb2.block _ (Array.getElem?_eq_some_iff.1 HR1.out).1).trans HR1.out)
  have HL2 := hid (HL1.out.below hb2)
  have HB2 := hid (g_trans HB.out hb2)
  clear hS HS1 HR1 HL1 HB hb2 HC HS HR HL
  obtain ⟨s0, s1, s2, s3, s4, s5, s6, s7, s8⟩ := HS2.out
  obtain ⟨r0, r1, r2, f0, f1⟩ := res2 HR2.out g_refl
  clear r0
  go_wp2
  refine bodyPost_ret (v := .tuple #[.agg #[.nilFunc, .pointer T.ad], .int .i64 0]) ?_ rfl ?_
  · simp [results, Tryz.results22, go_sem, *]
  · have h := HQ.out
    subst h
    exact ⟨.nilFunc, T, rfl, HL2.out.bod (set_two HR2.out _ _) (by decide), g_set (g_set (g_trans HA.out HB2.out) (by show w.heap.size ≤ w.heap.size + 1 + 1; omega) _) (by show w.heap.size ≤ w.heap.size + 1 + 1; omega) _⟩
set_option maxRecDepth 20000 in
set_option maxHeartbeats 2000000 in
theorem with_drop {w : World} {T : Tr} {l : List Tup} (k : Tup) (hk : Fits k) (h : MapL w (.func (.func 50) #[] #[]) T l) (hn : l.length ≤ 900000) (ho : okT k = true) (hz : decide (k ∈ l) = true) :
    Calls Tryz.prog 22 #[.agg #[(.func (.func 50) #[] #[]), .pointer T.ad], .agg #[.string k.a, .string k.b, .string k.c, .string k.d, .string k.e, .string k.f, .bool true]] w (GivesS w (Tr.del k l, 0)) := by
  obtain ⟨hA, hS, hR, hM⟩ := with_world w (.func (.func 50) #[] #[]) T.ad k true _ rfl
  have HA := hid hA
  have HS := hid hS
  have HR := hid hR
  have HM := hid hM
  have HC := hid (fun W => tcheck_e k 0 W hk (by rw [ho]; rfl))
  have HL := hid (h.below hA)
  have HN := hid hn
  have HZ := hid hz
  have HK := hid (of_decide_eq_true hz)
  clear hA hS hR hM hk ho h hn hz
  go_enter Tryz.func22, Tryz.ntmps22
  go_wp2_with fail
  refine (HC.out _).mono ?_
  rintro _ w1 ⟨rfl, hb1⟩
  generalize hA1 : (((w.alloc (.cells #[(.func (.func 50) #[] #[]), .pointer T.ad] 38 (0, 0))).alloc (.cells #[.string k.a, .string k.b, .string k.c, .string k.d, .string k.e, .string k.f, .bool true] 69 (0, 0))).alloc (.cells #[.nilFunc, .pointer none] 38 (0, 0))) = A1 at *
  generalize hq : w.heap.size = q at *
  have HQ := hid hq
  clear hA1 hq
  have HS1 := hid (keep9 (g_drew hb1) HS.out)
  have hS := HS1.out
  have HL1 := hid ((HL.out.below (g_drew hb1)))
  have HB := hid (g_drew hb1)
  have HR1 : Hid (w1.drew.heap[q + 1 + 1]? = some (.cells #[.nilFunc, .pointer none] 38 (0, 0))) := hid ((hb1.block _ (Array.getElem?_eq_some_iff.1 HR.out).1).trans HR.out)
  clear hb1
  go_wp2_with fail
  go_region_held3 (fun w' => w'.cell? ⟨q, 0, none⟩ = some (.func (.func 50) #[] #[]) ∧ w'.cell? ⟨q, 1, none⟩ = some (.pointer T.ad) ∧ w'.cell? ⟨q + 1, 0, none⟩ = some (.string k.a) ∧ w'.cell? ⟨q + 1, 1, none⟩ = some (.string k.b) ∧ w'.cell? ⟨q + 1, 2, none⟩ = some (.string k.c) ∧ w'.cell? ⟨q + 1, 3, none⟩ = some (.string k.d) ∧ w'.cell? ⟨q + 1, 4, none⟩ = some (.string k.e) ∧ w'.cell? ⟨q + 1, 5, none⟩ = some (.string k.f) ∧ w'.cell? ⟨q + 1, 6, none⟩ = some (.bool true)) (first | with_reducible assumption | exact keep9 (by with_reducible assumption) (by with_reducible assumption))
    (first | (go_at_call 18; (with_reducible refine Calls.mono (has_l k _ HZ.out HL1.out HN.out) ?_); rintro _ w2 ⟨rfl, hb2⟩))
  have HS2 := hid (keep9 hb2 HS1.out)
  have HR2 := hid ((hb2.block _ (Array.getElem?_eq_some_iff.1 HR1.out).1).trans HR1.out)
  have HL2 := hid (HL1.out.below hb2)
  have HB2 := hid (g_trans HB.out hb2)
  clear hS HS1 HR1 HL1 HB hb2 HC HS HR HL
  obtain ⟨s0, s1, s2, s3, s4, s5, s6, s7, s8⟩ := HS2.out
  go_wp2_with fail
  refine (drop_l k HL2.out HK.out HN.out).mono ?_
  rintro _ w3 ⟨T3, rfl, hL3, hb3⟩
  obtain ⟨r0, r1, r2, f0, f1⟩ := res2 HR2.out hb3
  have HL3 := hid hL3
  have HR3 := hid r0
  have HB3 := hid (g_trans HB2.out hb3)
  clear r0 hL3 hb3 s0 s1 s2 s3 s4 s5 s6 s7 s8
  simp only [fv]
  go_wp2
  refine bodyPost_ret (v := .tuple #[.agg #[.func (.func 50) #[] #[], .pointer T3.ad], .int .i64 0]) ?_ rfl ?_
  · simp [results, Tryz.results22, go_sem, *]
  · have h := HQ.out
    subst h
    exact ⟨fv, T3, rfl, HL3.out.bod (set_two HR3.out _ _) (by decide), g_set (g_set (g_trans HA.out HB3.out) (by show w.heap.size ≤ w.heap.size + 1 + 1; omega) _) (by show w.heap.size ≤ w.heap.size + 1 + 1; omega) _⟩
set_option maxRecDepth 20000 in
set_option maxHeartbeats 2000000 in
theorem with_full {w : World} {T : Tr} {l : List Tup} (k : Tup) (hk : Fits k) (h : MapL w (.func (.func 50) #[] #[]) T l) (hn : l.length ≤ 900000) (ho : okT k = true) (hz : decide (k ∈ l) = false) (hf : 4096 ≤ l.length) :
    Calls Tryz.prog 22 #[.agg #[(.func (.func 50) #[] #[]), .pointer T.ad], .agg #[.string k.a, .string k.b, .string k.c, .string k.d, .string k.e, .string k.f, .bool false]] w (GivesS w ([], 3)) := by
  obtain ⟨hA, hS, hR, hM⟩ := with_world w (.func (.func 50) #[] #[]) T.ad k false _ rfl
  have HA := hid hA
  have HS := hid hS
  have HR := hid hR
  have HM := hid hM
  have HC := hid (fun W => tcheck_e k 0 W hk (by rw [ho]; rfl))
  have HL := hid (h.below hA)
  have HN := hid hn
  have HZ := hid hz
  have hge : (4096 : Int) ≤ (l.length : Int) := by omega
  clear hA hS hR hM hk ho h hn hz hf
  go_enter Tryz.func22, Tryz.ntmps22
  go_wp2_with fail
  refine (HC.out _).mono ?_
  rintro _ w1 ⟨rfl, hb1⟩
  generalize hA1 : (((w.alloc (.cells #[(.func (.func 50) #[] #[]), .pointer T.ad] 38 (0, 0))).alloc (.cells #[.string k.a, .string k.b, .string k.c, .string k.d, .string k.e, .string k.f, .bool false] 69 (0, 0))).alloc (.cells #[.nilFunc, .pointer none] 38 (0, 0))) = A1 at *
  generalize hq : w.heap.size = q at *
  have HQ := hid hq
  clear hA1 hq
  have HS1 := hid (keep9 (g_drew hb1) HS.out)
  have hS := HS1.out
  have HL1 := hid ((HL.out.below (g_drew hb1)))
  have HB := hid (g_drew hb1)
  have HR1 : Hid (w1.drew.heap[q + 1 + 1]? = some (.cells #[.nilFunc, .pointer none] 38 (0, 0))) := hid ((hb1.block _ (Array.getElem?_eq_some_iff.1 HR.out).1).trans HR.out)
  clear hb1
  go_wp2_with fail
  go_region_held3 (fun w' => w'.cell? ⟨q, 0, none⟩ = some (.func (.func 50) #[] #[]) ∧ w'.cell? ⟨q, 1, none⟩ = some (.pointer T.ad) ∧ w'.cell? ⟨q + 1, 0, none⟩ = some (.string k.a) ∧ w'.cell? ⟨q + 1, 1, none⟩ = some (.string k.b) ∧ w'.cell? ⟨q + 1, 2, none⟩ = some (.string k.c) ∧ w'.cell? ⟨q + 1, 3, none⟩ = some (.string k.d) ∧ w'.cell? ⟨q + 1, 4, none⟩ = some (.string k.e) ∧ w'.cell? ⟨q + 1, 5, none⟩ = some (.string k.f) ∧ w'.cell? ⟨q + 1, 6, none⟩ = some (.bool false)) (first | with_reducible assumption | exact keep9 (by with_reducible assumption) (by with_reducible assumption))
    (first | (go_at_call 18; (with_reducible refine Calls.mono (has_l k _ HZ.out HL1.out HN.out) ?_); rintro _ w2 ⟨rfl, hb2⟩))
  have HS2 := hid (keep9 hb2 HS1.out)
  have HR2 := hid ((hb2.block _ (Array.getElem?_eq_some_iff.1 HR1.out).1).trans HR1.out)
  have HL2 := hid (HL1.out.below hb2)
  have HB2 := hid (g_trans HB.out hb2)
  clear hS HS1 HR1 HL1 HB hb2 HC HS HR HL
  obtain ⟨s0, s1, s2, s3, s4, s5, s6, s7, s8⟩ := HS2.out
  go_wp2_with fail
  refine (len_l HL2.out).mono ?_
  rintro _ w3 ⟨rfl, hb3⟩
  have HS3 := hid (keep9 hb3 HS2.out)
  have HR3 := hid ((hb3.block _ (Array.getElem?_eq_some_iff.1 HR2.out).1).trans HR2.out)
  have HL3 := hid (HL2.out.below hb3)
  have HB3 := hid (g_trans HB2.out hb3)
  obtain ⟨r0, r1, r2, f0, f1⟩ := res2 HR3.out g_refl
  clear r0 hb3 s0 s1 s2 s3 s4 s5 s6 s7 s8
  go_wp2
  refine bodyPost_ret (v := .tuple #[.agg #[.nilFunc, .pointer none], .int .i64 3]) ?_ rfl ?_
  · simp [results, Tryz.results22, go_sem, *]
  · have h := HQ.out
    subst h
    exact ⟨.nilFunc, .nil, rfl, MapL.zero _, g_set (g_set (g_trans HA.out HB3.out) (by show w.heap.size ≤ w.heap.size + 1 + 1; omega) _) (by show w.heap.size ≤ w.heap.size + 1 + 1; omega) _⟩
set_option maxRecDepth 20000 in
set_option maxHeartbeats 2000000 in
theorem with_put {w : World} {T : Tr} {l : List Tup} (k : Tup) (hk : Fits k) (h : MapL w (.func (.func 50) #[] #[]) T l) (hn : l.length ≤ 900000) (ho : okT k = true) (hz : decide (k ∈ l) = false) (hf : ¬ 4096 ≤ l.length) (he : l ≠ []) :
    Calls Tryz.prog 22 #[.agg #[(.func (.func 50) #[] #[]), .pointer T.ad], .agg #[.string k.a, .string k.b, .string k.c, .string k.d, .string k.e, .string k.f, .bool false]] w (GivesS w (ins cmpT k l, 0)) := by
  obtain ⟨hA, hS, hR, hM⟩ := with_world w (.func (.func 50) #[] #[]) T.ad k false _ rfl
  have HA := hid hA
  have HS := hid hS
  have HR := hid hR
  have HM := hid hM
  have HC := hid (fun W => tcheck_e k 0 W hk (by rw [ho]; rfl))
  have HL := hid (h.below hA)
  have HN := hid hn
  have HZ := hid hz
  have HK := hid (of_decide_eq_false hz)
  have hge : ¬ (4096 : Int) ≤ (l.length : Int) := by omega
  have hpos : ((l.length : Int) == 0) = false := beq_eq_false_iff_ne.2 (fun e => he (List.eq_nil_of_length_eq_zero (by omega)))
  clear hA hS hR hM hk ho h hn hz hf he
  go_enter Tryz.func22, Tryz.ntmps22
  go_wp2_with fail
  refine (HC.out _).mono ?_
  rintro _ w1 ⟨rfl, hb1⟩
  generalize hA1 : (((w.alloc (.cells #[(.func (.func 50) #[] #[]), .pointer T.ad] 38 (0, 0))).alloc (.cells #[.string k.a, .string k.b, .string k.c, .string k.d, .string k.e, .string k.f, .bool false] 69 (0, 0))).alloc (.cells #[.nilFunc, .pointer none] 38 (0, 0))) = A1 at *
  generalize hq : w.heap.size = q at *
  have HQ := hid hq
  clear hA1 hq
  have HS1 := hid (keep9 (g_drew hb1) HS.out)
  have hS := HS1.out
  have HL1 := hid ((HL.out.below (g_drew hb1)))
  have HB := hid (g_drew hb1)
  have HR1 : Hid (w1.drew.heap[q + 1 + 1]? = some (.cells #[.nilFunc, .pointer none] 38 (0, 0))) := hid ((hb1.block _ (Array.getElem?_eq_some_iff.1 HR.out).1).trans HR.out)
  clear hb1
  go_wp2_with fail
  go_region_held3 (fun w' => w'.cell? ⟨q, 0, none⟩ = some (.func (.func 50) #[] #[]) ∧ w'.cell? ⟨q, 1, none⟩ = some (.pointer T.ad) ∧ w'.cell? ⟨q + 1, 0, none⟩ = some (.string k.a) ∧ w'.cell? ⟨q + 1, 1, none⟩ = some (.string k.b) ∧ w'.cell? ⟨q + 1, 2, none⟩ = some (.string k.c) ∧ w'.cell? ⟨q + 1, 3, none⟩ = some (.string k.d) ∧ w'.cell? ⟨q + 1, 4, none⟩ = some (.string k.e) ∧ w'.cell? ⟨q + 1, 5, none⟩ = some (.string k.f) ∧ w'.cell? ⟨q + 1, 6, none⟩ = some (.bool false)) (first | with_reducible assumption | exact keep9 (by with_reducible assumption) (by with_reducible assumption))
    (first | (go_at_call 18; (with_reducible refine Calls.mono (has_l k _ HZ.out HL1.out HN.out) ?_); rintro _ w2 ⟨rfl, hb2⟩))
  have HS2 := hid (keep9 hb2 HS1.out)
  have HR2 := hid ((hb2.block _ (Array.getElem?_eq_some_iff.1 HR1.out).1).trans HR1.out)
  have HL2 := hid (HL1.out.below hb2)
  have HB2 := hid (g_trans HB.out hb2)
  clear hS HS1 HR1 HL1 HB hb2 HC HS HR HL
  obtain ⟨s0, s1, s2, s3, s4, s5, s6, s7, s8⟩ := HS2.out
  go_wp2_with fail
  refine (len_l HL2.out).mono ?_
  rintro _ w3 ⟨rfl, hb3⟩
  have HS3 := hid (keep9 hb3 HS2.out)
  have HR3 := hid ((hb3.block _ (Array.getElem?_eq_some_iff.1 HR2.out).1).trans HR2.out)
  have HL3 := hid (HL2.out.below hb3)
  have HB3 := hid (g_trans HB2.out hb3)
  clear s0 s1 s2 s3 s4 s5 s6 s7 s8
  obtain ⟨s0, s1, s2, s3, s4, s5, s6, s7, s8⟩ := HS3.out
  clear hb3
  go_wp2_with fail
  refine (len_l HL3.out).mono ?_
  rintro _ w4 ⟨rfl, hb4⟩
  have HS4 := hid (keep9 hb4 HS3.out)
  have HR4 := hid ((hb4.block _ (Array.getElem?_eq_some_iff.1 HR3.out).1).trans HR3.out)
  have HL4 := hid (HL3.out.below hb4)
  have HB4 := hid (g_trans HB3.out hb4)
  clear s0 s1 s2 s3 s4 s5 s6 s7 s8
  obtain ⟨s0, s1, s2, s3, s4, s5, s6, s7, s8⟩ := HS4.out
  clear hb4
  go_wp2_with fail
  refine (put_l k HL4.out HK.out HN.out).mono ?_
  rintro _ w5 ⟨T3, rfl, hL3, hb5⟩
  obtain ⟨r0, r1, r2, f0, f1⟩ := res2 HR4.out hb5
  have HL5 := hid hL3
  have HR5 := hid r0
  have HB5 := hid (g_trans HB4.out hb5)
  clear r0 hL3 hb5 s0 s1 s2 s3 s4 s5 s6 s7 s8
  simp only [fv]
  go_wp2
  refine bodyPost_ret (v := .tuple #[.agg #[.func (.func 50) #[] #[], .pointer T3.ad], .int .i64 0]) ?_ rfl ?_
  · simp [results, Tryz.results22, go_sem, *]
  · have h := HQ.out
    subst h
    exact ⟨fv, T3, rfl, HL5.out.bod (set_two HR5.out _ _) (by decide), g_set (g_set (g_trans HA.out HB5.out) (by show w.heap.size ≤ w.heap.size + 1 + 1; omega) _) (by show w.heap.size ≤ w.heap.size + 1 + 1; omega) _⟩
theorem has_n (k : Tup) {w : World} {ov : Value} (h : MapL w ov .nil []) :
    Calls Tryz.prog 18 #[.agg #[ov, .pointer none], .agg #[.string k.a, .string k.b, .string k.c, .string k.d, .string k.e, .string k.f]] w fun e w' => e = .returned (.bool false) ∧ Below w.heap.size w w' := by
  have q := has_l (T := .nil) (l := []) k false (by simp) h (by simp)
  exact q
theorem len_n {w : World} {ov : Value} (h : MapL w ov .nil []) :
    Calls Tryz.prog 44 #[.agg #[ov, .pointer none]] w fun e w' => e = .returned (.int .i64 0) ∧ Below w.heap.size w w' := len_l h
theorem put_n (k : Tup) (w : World) :
    Calls Tryz.prog 51 #[.agg #[.func (.func 50) #[] #[], .pointer none], .agg #[.string k.a, .string k.b, .string k.c, .string k.d, .string k.e, .string k.f], .agg #[]] w (GivesL w (ins cmpT k [])) := by
  have q := put_l (T := .nil) (l := []) k (MapL.nil w) (by simp) (by simp)
  exact q
theorem new_n (w : World) : Calls Tryz.prog 49 #[.func (.func 50) #[] #[]] w fun e w' => e = .returned (.agg #[.func (.func 50) #[] #[], .pointer none]) ∧ Below w.heap.size w w' := new_any w
set_option maxRecDepth 20000 in
set_option maxHeartbeats 2000000 in
theorem with_new {w : World} {ov : Value} (k : Tup) (hk : Fits k) (h : MapL w ov .nil []) (ho : okT k = true) :
    Calls Tryz.prog 22 #[.agg #[ov, .pointer none], .agg #[.string k.a, .string k.b, .string k.c, .string k.d, .string k.e, .string k.f, .bool false]] w (GivesS w (ins cmpT k [], 0)) := by
  obtain ⟨hA, hS, hR, hM⟩ := with_world w ov none k false _ rfl
  have HA := hid hA
  have HS := hid hS
  have HR := hid hR
  have HM := hid hM
  have HC := hid (fun W => tcheck_e k 0 W hk (by rw [ho]; rfl))
  have HL := hid (h.below hA)
  clear hA hS hR hM hk ho h
  go_enter Tryz.func22, Tryz.ntmps22
  go_wp2_with fail
  refine (HC.out _).mono ?_
  rintro _ w1 ⟨rfl, hb1⟩
  generalize hA1 : (((w.alloc (.cells #[ov, .pointer none] 38 (0, 0))).alloc (.cells #[.string k.a, .string k.b, .string k.c, .string k.d, .string k.e, .string k.f, .bool false] 69 (0, 0))).alloc (.cells #[.nilFunc, .pointer none] 38 (0, 0))) = A1 at *
  generalize hq : w.heap.size = q at *
  have HQ := hid hq
  clear hA1 hq
  have HS1 := hid (keep9 (g_drew hb1) HS.out)
  have hS := HS1.out
  have HL1 := hid ((HL.out.below (g_drew hb1)))
  have HB := hid (g_drew hb1)
  have HR1 : Hid (w1.drew.heap[q + 1 + 1]? = some (.cells #[.nilFunc, .pointer none] 38 (0, 0))) := hid ((hb1.block _ (Array.getElem?_eq_some_iff.1 HR.out).1).trans HR.out)
  clear hb1
  go_wp2_with fail
  go_region_held3 (fun w' => w'.cell? ⟨q, 0, none⟩ = some ov ∧ w'.cell? ⟨q, 1, none⟩ = some (.pointer none) ∧ w'.cell? ⟨q + 1, 0, none⟩ = some (.string k.a) ∧ w'.cell? ⟨q + 1, 1, none⟩ = some (.string k.b) ∧ w'.cell? ⟨q + 1, 2, none⟩ = some (.string k.c) ∧ w'.cell? ⟨q + 1, 3, none⟩ = some (.string k.d) ∧ w'.cell? ⟨q + 1, 4, none⟩ = some (.string k.e) ∧ w'.cell? ⟨q + 1, 5, none⟩ = some (.string k.f) ∧ w'.cell? ⟨q + 1, 6, none⟩ = some (.bool false)) (first | with_reducible assumption | exact keep9 (by with_reducible assumption) (by with_reducible assumption))
    (first | (go_at_call 18; (with_reducible refine Calls.mono (has_n k HL1.out) ?_); rintro _ w2 ⟨rfl, hb2⟩))
  have HS2 := hid (keep9 hb2 HS1.out)
  have HR2 := hid ((hb2.block _ (Array.getElem?_eq_some_iff.1 HR1.out).1).trans HR1.out)
  have HL2 := hid (HL1.out.below hb2)
  have HB2 := hid (g_trans HB.out hb2)
  clear hS HS1 HR1 HL1 HB hb2 HC HS HR HL
  obtain ⟨s0, s1, s2, s3, s4, s5, s6, s7, s8⟩ := HS2.out
  go_wp2_with fail
  refine (len_n HL2.out).mono ?_
  rintro _ w3 ⟨rfl, hb3⟩
  have HS3 := hid (keep9 hb3 HS2.out)
  have HR3 := hid ((hb3.block _ (Array.getElem?_eq_some_iff.1 HR2.out).1).trans HR2.out)
  have HL3 := hid (HL2.out.below hb3)
  have HB3 := hid (g_trans HB2.out hb3)
  clear s0 s1 s2 s3 s4 s5 s6 s7 s8
  obtain ⟨s0, s1, s2, s3, s4, s5, s6, s7, s8⟩ := HS3.out
  clear hb3
  go_wp2_with fail
  refine (len_n HL3.out).mono ?_
  rintro _ w4 ⟨rfl, hb4⟩
  have HS4 := hid (keep9 hb4 HS3.out)
  have HR4 := hid ((hb4.block _ (Array.getElem?_eq_some_iff.1 HR3.out).1).trans HR3.out)
  have HL4 := hid (HL3.out.below hb4)
  have HB4 := hid (g_trans HB3.out hb4)
  clear s0 s1 s2 s3 s4 s5 s6 s7 s8
  obtain ⟨s0, s1, s2, s3, s4, s5, s6, s7, s8⟩ := HS4.out
  clear hb4
  go_wp2_with fail
  refine (new_n _).mono ?_
  rintro _ w5 ⟨rfl, hb5⟩
  obtain ⟨m0, m1, m2, g0, g1⟩ := res2 ((HB4.out.block _ (Array.getElem?_eq_some_iff.1 HM.out).1).trans HM.out) hb5
  have r5 := (hb5.block _ (Array.getElem?_eq_some_iff.1 HR4.out).1).trans HR4.out
  have HR5 : Hid (((w5.setCell ⟨q, 0, none⟩ (.func (.func 50) #[] #[])).setCell ⟨q, 1, none⟩ (.pointer none)).heap[q + 1 + 1]? = some (.cells #[.nilFunc, .pointer none] 38 (0, 0))) := hid (by
    rw [heap_setCell_other _ ⟨q, 1, none⟩ _ _ (by show ¬ q + 1 + 1 = q; omega), heap_setCell_other _ ⟨q, 0, none⟩ _ _ (by show ¬ q + 1 + 1 = q; omega)]; exact r5)
  have HB5 : Hid (Below q w ((w5.setCell ⟨q, 0, none⟩ (.func (.func 50) #[] #[])).setCell ⟨q, 1, none⟩ (.pointer none))) := hid (by
    have h := HQ.out
    subst h
    exact g_set (g_set (g_trans (g_trans HA.out HB4.out) hb5) (Nat.le_refl _) _) (Nat.le_refl _) _)
  clear s0 s1 s2 s3 s4 s5 s6 s7 s8
  obtain ⟨s0, s1, s2, s3, s4, s5, s6, s7, s8⟩ := keep9 hb5 HS4.out
  clear m0 s0 s1 r5 hb5
  go_wp2_with fail
  refine (put_n k _).mono ?_
  rintro _ w6 ⟨T3, rfl, hL3, hb6⟩
  obtain ⟨r0, r1, r2, f0, f1⟩ := res2 HR5.out hb6
  have HL6 := hid hL3
  have HR6 := hid r0
  have HB6 : Hid (Below q w w6) := hid (by
    have h := HQ.out
    subst h
    exact g_trans HB5.out hb6)
  clear r0 hL3 hb6 s2 s3 s4 s5 s6 s7 s8 m1 m2 g0 g1
  simp only [fv]
  go_wp2
  refine bodyPost_ret (v := .tuple #[.agg #[.func (.func 50) #[] #[], .pointer T3.ad], .int .i64 0]) ?_ rfl ?_
  · simp [results, Tryz.results22, go_sem, *]
  · have h := HQ.out
    subst h
    exact ⟨fv, T3, rfl, HL6.out.bod (set_two HR6.out _ _) (by decide), g_set (g_set (HB6.out) (by show w.heap.size ≤ w.heap.size + 1 + 1; omega) _) (by show w.heap.size ≤ w.heap.size + 1 + 1; omega) _⟩
/-- With, whatever the set and the change -/
theorem with_l (k : Tup) (d : Bool) (hk : Fits k) {w : World} {ov : Value} {T : Tr} {l : List Tup} (h : MapL w ov T l) (hn : l.length ≤ 900000) :
    Calls Tryz.prog 22 #[.agg #[ov, .pointer T.ad], .agg #[.string k.a, .string k.b, .string k.c, .string k.d, .string k.e, .string k.f, .bool d]] w (GivesS w (wth l k d)) := by
  unfold wth
  cases ho : okT k
  · rw [if_pos rfl]; exact with_bad k hk d ho
  · rw [if_neg Bool.noConfusion]
    have hov := h.ov
    by_cases hz : k ∈ l
    · have e := h.full (List.ne_nil_of_mem hz)
      subst e
      cases d
      · rw [if_neg Bool.noConfusion, if_pos hz]; exact with_in k hk h hn ho (by simpa using hz)
      · rw [if_pos rfl]; exact with_drop k hk h hn ho (by simpa using hz)
    · cases d
      · rw [if_neg Bool.noConfusion, if_neg hz]
        by_cases he : l = []
        · subst he
          have e := h.tnil
          subst e
          rw [if_neg (by simp)]
          exact with_new k hk h ho
        · have e := h.full he
          subst e
          by_cases hf : 4096 ≤ l.length
          · rw [if_pos hf]; exact with_full k hk h hn ho (by simpa using hz) hf
          · rw [if_neg hf]; exact with_put k hk h hn ho (by simpa using hz) hf he
      · rw [if_pos rfl, Tr.del_new hz]
        rcases hov with e | ⟨e, -⟩
        · subst e; exact with_outF k hk h hn ho (by simpa using hz)
        · subst e; exact with_outN k hk h hn ho (by simpa using hz)
end Go.Proofs.YtgfgfggoofjeeaaGreat.DT
