/-
  CodecsKnown returns true: the walk.
-/
import Derived.Test.YtohnhjmiblgkkaaCLives
import Derived.Test.YtohnhjmiblgkkaaCObj
import Derived.Deep.LoopGhost
import Derived.Deep.DeepCutAuto
namespace Go.Proofs.Ytohnhjmiblgkkaa
open Go.RowKit

/-- another writer wrote -/
theorem WS.otherW {w w' : World} {r base q : Nat} {v u u' : Value} {L : List UInt8} (h : WS w r base v L) (hc : WC w w' q u u') (h1 : r ≠ q) (h2 : u.ownBlock ≠ some r) (h3 : ∀ k, v.ownBlock = some k → k ≠ q ∧ u.ownBlock ≠ some k) : WS w' r base v L := by
  have hr := hc.block r h.lt h1 h2
  refine ⟨(World.cell?_of_block (w := w) (a := ⟨r, 0, none⟩) hr).trans h.c0, (World.frozen?_of_block (w := w) (a := ⟨r, 0, none⟩) hr).trans h.f, Nat.lt_of_lt_of_le h.lt hc.size, ⟨h.own.1, ?_⟩, h.far⟩
  rcases h.own.2 with hn | ⟨g, cap, cur, rfl, hb, hg, hrest⟩
  · exact .inl hn
  · have hk := h3 g rfl
    have hl := (World.ownsRow.lt h.own g rfl).2
    exact .inr ⟨g, cap, cur, rfl, hb, (hc.block g hl hk.1 hk.2).trans hg, hrest⟩
theorem of_v {w : World} (B : Option Addr) (L : List UInt8) (n : Nat) (hn : L.length = n) (h : Byt w B L) (hl : L.length ≤ 1000000) (h0 : B = none → L.length = 0) :
    Calls Try.prog 14 #[.slice B n n] w fun e w' => ∃ r C, e = .returned (.pointer (some ⟨r, 0, none⟩)) ∧ RB w' w.heap.size w'.heap.size r C L ⟨0, 0, 0⟩ ∧ Below w.heap.size w w' := by
  subst hn
  refine (of_any B L.length L w h.toO (Nat.le_refl _) h0 hl).mono fun e w' he => ?_
  obtain ⟨r, C, rfl, h1, h2, h3, h4⟩ := he
  exact ⟨r, C, rfl, RB.mk0 h1 h2 h3, h4⟩
theorem byt_none {w : World} {B : Option Addr} {L : List UInt8} (h : Byt w B L) (hn : L ≠ []) : B = none → L.length = 0 := fun hB => by
  obtain ⟨g, e, _⟩ := h hn; rw [hB] at e; cases e
theorem kw_l0 : [] ++ num 0 = [0] := by decide +kernel
theorem kr_l0 : rnum [0] ⟨0, 0, 0⟩ = (0, ⟨1, 0, 0⟩) := by decide +kernel
theorem kw_m0 : [] ++ num 127 = [127] := by decide +kernel
theorem kr_m0 : rnum [127] ⟨0, 0, 0⟩ = (127, ⟨1, 0, 0⟩) := by decide +kernel
theorem kw_l1 : [] ++ num 128 = [128, 1] := by decide +kernel
theorem kr_l1 : rnum [128, 1] ⟨0, 0, 0⟩ = (128, ⟨2, 0, 0⟩) := by decide +kernel
theorem kw_m1 : [] ++ num 16383 = [255, 127] := by decide +kernel
theorem kr_m1 : rnum [255, 127] ⟨0, 0, 0⟩ = (16383, ⟨2, 0, 0⟩) := by decide +kernel
theorem kw_l2 : [] ++ num 16384 = [128, 128, 1] := by decide +kernel
theorem kr_l2 : rnum [128, 128, 1] ⟨0, 0, 0⟩ = (16384, ⟨3, 0, 0⟩) := by decide +kernel
theorem kw_m2 : [] ++ num 2097151 = [255, 255, 127] := by decide +kernel
theorem kr_m2 : rnum [255, 255, 127] ⟨0, 0, 0⟩ = (2097151, ⟨3, 0, 0⟩) := by decide +kernel
theorem kw_l3 : [] ++ num 2097152 = [128, 128, 128, 1] := by decide +kernel
theorem kr_l3 : rnum [128, 128, 128, 1] ⟨0, 0, 0⟩ = (2097152, ⟨4, 0, 0⟩) := by decide +kernel
theorem kw_m3 : [] ++ num 268435455 = [255, 255, 255, 127] := by decide +kernel
theorem kr_m3 : rnum [255, 255, 255, 127] ⟨0, 0, 0⟩ = (268435455, ⟨4, 0, 0⟩) := by decide +kernel
theorem kw_l4 : [] ++ num 268435456 = [128, 128, 128, 128, 1] := by decide +kernel
theorem kr_l4 : rnum [128, 128, 128, 128, 1] ⟨0, 0, 0⟩ = (268435456, ⟨5, 0, 0⟩) := by decide +kernel
theorem kw_m4 : [] ++ num 34359738367 = [255, 255, 255, 255, 127] := by decide +kernel
theorem kr_m4 : rnum [255, 255, 255, 255, 127] ⟨0, 0, 0⟩ = (34359738367, ⟨5, 0, 0⟩) := by decide +kernel
theorem kw_l5 : [] ++ num 34359738368 = [128, 128, 128, 128, 128, 1] := by decide +kernel
theorem kr_l5 : rnum [128, 128, 128, 128, 128, 1] ⟨0, 0, 0⟩ = (34359738368, ⟨6, 0, 0⟩) := by decide +kernel
theorem kw_m5 : [] ++ num 4398046511103 = [255, 255, 255, 255, 255, 127] := by decide +kernel
theorem kr_m5 : rnum [255, 255, 255, 255, 255, 127] ⟨0, 0, 0⟩ = (4398046511103, ⟨6, 0, 0⟩) := by decide +kernel
theorem kw_l6 : [] ++ num 4398046511104 = [128, 128, 128, 128, 128, 128, 1] := by decide +kernel
theorem kr_l6 : rnum [128, 128, 128, 128, 128, 128, 1] ⟨0, 0, 0⟩ = (4398046511104, ⟨7, 0, 0⟩) := by decide +kernel
theorem kw_m6 : [] ++ num 562949953421311 = [255, 255, 255, 255, 255, 255, 127] := by decide +kernel
theorem kr_m6 : rnum [255, 255, 255, 255, 255, 255, 127] ⟨0, 0, 0⟩ = (562949953421311, ⟨7, 0, 0⟩) := by decide +kernel
theorem kw_l7 : [] ++ num 562949953421312 = [128, 128, 128, 128, 128, 128, 128, 1] := by decide +kernel
theorem kr_l7 : rnum [128, 128, 128, 128, 128, 128, 128, 1] ⟨0, 0, 0⟩ = (562949953421312, ⟨8, 0, 0⟩) := by decide +kernel
theorem kw_m7 : [] ++ num 72057594037927935 = [255, 255, 255, 255, 255, 255, 255, 127] := by decide +kernel
theorem kr_m7 : rnum [255, 255, 255, 255, 255, 255, 255, 127] ⟨0, 0, 0⟩ = (72057594037927935, ⟨8, 0, 0⟩) := by decide +kernel
theorem kw_l8 : [] ++ num 72057594037927936 = [128, 128, 128, 128, 128, 128, 128, 128, 1] := by decide +kernel
theorem kr_l8 : rnum [128, 128, 128, 128, 128, 128, 128, 128, 1] ⟨0, 0, 0⟩ = (72057594037927936, ⟨9, 0, 0⟩) := by decide +kernel
theorem kw_m8 : [] ++ num 9223372036854775807 = [255, 255, 255, 255, 255, 255, 255, 255, 127] := by decide +kernel
theorem kr_m8 : rnum [255, 255, 255, 255, 255, 255, 255, 255, 127] ⟨0, 0, 0⟩ = (9223372036854775807, ⟨9, 0, 0⟩) := by decide +kernel
theorem kw_l9 : [] ++ num 9223372036854775808 = [128, 128, 128, 128, 128, 128, 128, 128, 128, 1] := by decide +kernel
theorem kr_l9 : rnum [128, 128, 128, 128, 128, 128, 128, 128, 128, 1] ⟨0, 0, 0⟩ = (9223372036854775808, ⟨10, 0, 0⟩) := by decide +kernel
theorem kw_m9 : [] ++ num 18446744073709551615 = [255, 255, 255, 255, 255, 255, 255, 255, 255, 1] := by decide +kernel
theorem kr_m9 : rnum [255, 255, 255, 255, 255, 255, 255, 255, 255, 1] ⟨0, 0, 0⟩ = (18446744073709551615, ⟨10, 0, 0⟩) := by decide +kernel
/-- the ten bytes -/
def TB (w : World) (T : Nat) : Prop := T < w.heap.size ∧ (∀ i, i < 9 → w.cell? ⟨T, i, none⟩ = some (.int .u8 255)) ∧ (∃ v : Int, w.cell? ⟨T, 9, none⟩ = some (.int .u8 v)) ∧ w.frozen? ⟨T, 9, none⟩ = false
theorem TB.keep {w w' : World} {T : Nat} (h : TB w T) (hs : w.heap.size ≤ w'.heap.size) (hb : w'.heap[T]? = w.heap[T]?) : TB w' T := by
  obtain ⟨h1, h2, ⟨v, h3⟩, h4⟩ := h
  exact ⟨Nat.lt_of_lt_of_le h1 hs, fun i hi => (World.cell?_of_block (w := w) (a := ⟨T, i, none⟩) hb).trans (h2 i hi), ⟨v, (World.cell?_of_block (w := w) (a := ⟨T, 9, none⟩) hb).trans h3⟩, (World.frozen?_of_block (w := w) (a := ⟨T, 9, none⟩) hb).trans h4⟩
theorem TB.set {w : World} {T : Nat} (h : TB w T) (x : Int) : TB (w.setCell ⟨T, 9, none⟩ (.int .u8 x)) T := by
  obtain ⟨h1, h2, ⟨v, h3⟩, h4⟩ := h
  exact ⟨by simpa [World.setCell] using h1, fun i hi => (World.cell?_setCell_other _ _ _ _ (ne_off (by omega))).trans (h2 i hi), ⟨x, World.cell?_setCell_same _ _ _ h3⟩, by rw [World.frozen?_setCell]; exact h4⟩
theorem TB.byo {w : World} {T : Nat} (h : TB w T) (b : UInt8) (x : Int) (hx : x = b.toNat) : ByO (w.setCell ⟨T, 9, none⟩ (.int .u8 x)) (some ⟨T, 0, none⟩) [255, 255, 255, 255, 255, 255, 255, 255, 255, b] := fun _ => by
  subst hx
  obtain ⟨h1, h2, ⟨v, h3⟩, h4⟩ := h
  refine ⟨T, 0, rfl, by simpa [World.setCell] using h1, fun i hi => ?_⟩
  rw [Nat.zero_add]
  have hi10 : i < 10 := hi
  by_cases h9 : i = 9
  · subst h9; rw [World.cell?_setCell_same _ _ _ h3]; rfl
  · rw [World.cell?_setCell_other _ _ _ _ (ne_off (by omega)), h2 i (by omega)]
    rcases (show i = 0 ∨ i = 1 ∨ i = 2 ∨ i = 3 ∨ i = 4 ∨ i = 5 ∨ i = 6 ∨ i = 7 ∨ i = 8 by omega) with rfl | rfl | rfl | rfl | rfl | rfl | rfl | rfl | rfl <;> rfl
theorem fault_v {r : Nat} {A : Option Addr} {L : List UInt8} {s : St} {w : World} (h : RS w r A L s) (a e : Int) (ha : s.fa = a) (he : s.fe = e) :
    Calls Try.prog 20 #[.pointer (some ⟨r, 0, none⟩)] w fun x w' => x = .returned (.tuple #[.int .i64 a, .int .i64 e]) ∧ Below w.heap.size w w' := by
  have := fault_any r A L s w h; rw [ha, he] at this; exact this
theorem failed_v {r : Nat} {A : Option Addr} {L : List UInt8} {s : St} {w : World} (h : RS w r A L s) (b : Bool) (hb : decide (s.fe ≠ 0) = b) :
    Calls Try.prog 21 #[.pointer (some ⟨r, 0, none⟩)] w fun x w' => x = .returned (.bool b) ∧ w' = w := by
  have := failed_any r A L s w h; rw [hb] at this; exact this
theorem object_v {r : Nat} {A : Option Addr} {L : List UInt8} {s t : St} {w : World} (x y : ByteArray) (h : RS w r A L s) (e : robj L s = ((x, y), t)) :
    Calls Try.prog 26 #[.pointer (some ⟨r, 0, none⟩)] w (RPost w r A L (.agg #[.string x, .string y]) t) := by
  have := object_any r A L s w h; rw [e] at this; exact this
theorem kt_w : [] ++ tform ⟨#[48, 49, 50, 51, 52, 53, 54, 55, 56, 57, 97, 98, 99, 100, 101, 102, 103]⟩ = [17, 48, 49, 50, 51, 52, 53, 54, 55, 56, 57, 97, 98, 99, 100, 101, 102, 103] := by decide +kernel
theorem kt_o : robj [17, 48, 49, 50, 51, 52, 53, 54, 55, 56, 57, 97, 98, 99, 100, 101, 102, 103] ⟨0, 0, 0⟩ = ((⟨#[]⟩, ⟨#[]⟩), ⟨0, 0, 3⟩) := by decide +kernel
theorem kt_a : rtext [17, 48, 49, 50, 51, 52, 53, 54, 55, 56, 57, 97, 98, 99, 100, 101, 102, 103] (lmt 17) ⟨0, 0, 0⟩ = (⟨#[48, 49, 50, 51, 52, 53, 54, 55, 56, 57, 97, 98, 99, 100, 101, 102, 103]⟩, ⟨18, 0, 0⟩) := by decide +kernel
theorem kt_c : rtext [17, 48, 49, 50, 51, 52, 53, 54, 55, 56, 57, 97, 98, 99, 100, 101, 102, 103] (lmt (-5)) ⟨0, 0, 0⟩ = (⟨#[]⟩, ⟨0, 0, 3⟩) := by decide +kernel
theorem kt_0 : rnum [255, 255, 255, 255, 255, 255, 255, 255, 255, 2] ⟨0, 0, 0⟩ = (0, ⟨0, 9, 5⟩) := by decide +kernel
theorem kt_1 : rnum [255, 255, 255, 255, 255, 255, 255, 255, 255, 0] ⟨0, 0, 0⟩ = (0, ⟨0, 9, 5⟩) := by decide +kernel
theorem kt_2 : rnum [255, 255, 255, 255, 255, 255, 255, 255, 255, 129] ⟨0, 0, 0⟩ = (0, ⟨0, 9, 5⟩) := by decide +kernel

set_option maxRecDepth 20000 in
set_option maxHeartbeats 20000000 in
theorem known_walk (w : World) : Calls Try.prog 8 #[] w fun e w' => e = .returned (.bool true) ∧ Below w.heap.size w w' := by
  go_enter Try.func8, Try.ntmps8
  go_wp2
  go_loopg [1] 10 (fun n z wr => ∃ k : Nat, n = 10 - k ∧ k ≤ 10 ∧ z = .int .i64 k ∧ Below w.heap.size w wr)
  case atStart => exact ⟨0, rfl, by omega, rfl, g_refl⟩
  case round =>
    obtain ⟨k, hk, hk10, rfl, hB⟩ := hrel
    have HK := hid hk
    have HB := hid hB
    clear hk hB
    rcases (show k = 0 ∨ k = 1 ∨ k = 2 ∨ k = 3 ∨ k = 4 ∨ k = 5 ∨ k = 6 ∨ k = 7 ∨ k = 8 ∨ k = 9 ∨ k = 10 by omega) with rfl | rfl | rfl | rfl | rfl | rfl | rfl | rfl | rfl | rfl | rfl <;> clear hk10
    · as_aux_lemma =>
      go_wp2
      go_quiet (fail)
      have hs1 : WS (((wr.drewN nq).alloc (.cells #[.slice none 0 0] 27)).alloc (.cells #[.slice none 0 0] 27)) wr.heap.size (wr.heap.size + 2) (.slice none 0 0) [] := (ws0 (wr.drewN nq) _).below (g_alloc g_refl _)
      have hs2 : WS (((wr.drewN nq).alloc (.cells #[.slice none 0 0] 27)).alloc (.cells #[.slice none 0 0] 27)) (wr.heap.size + 1) (wr.heap.size + 2) (.slice none 0 0) [] := by
        have h := ws0 ((wr.drewN nq).alloc (.cells #[.slice none 0 0] 27)) (wr.heap.size + 2)
        rwa [show ((wr.drewN nq).alloc (.cells #[.slice none 0 0] 27)).heap.size = wr.heap.size + 1 by simp] at h
      have hz : wr.heap.size + 2 ≤ (((wr.drewN nq).alloc (.cells #[.slice none 0 0] 27)).alloc (.cells #[.slice none 0 0] 27)).heap.size := by simp
      have hbw : Below w.heap.size w (((wr.drewN nq).alloc (.cells #[.slice none 0 0] 27)).alloc (.cells #[.slice none 0 0] 27)) := g_alloc (g_alloc (g_drewN HB.out nq) _) _
      have HS1 := hid hs1
      have HS2 := hid hs2
      have HZ := hid hz
      have HW := hid hbw
      have HT := hid HB.out.size
      clear hs1 hs2 hz hbw
      go_wp2_with fail
      refine (wnumber_any wr.heap.size (wr.heap.size + 2) (.slice none 0 0) [] 0 (by decide) _ HS1.out (by decide) HZ.out).mono ?_
      rintro e x1 ⟨rfl, v1, h1, hc1⟩
      rw [kw_l0] at h1
      have HS1 := hid h1
      have HS2 := hid (HS2.out.otherW hc1 (by omega) (fun h => by cases h) (fun k h => by cases h))
      have HZ := hid (Nat.le_trans HZ.out hc1.size)
      have HW := hid (WC.toBelow HW.out hc1 HT.out (fun k h => by cases h))
      clear h1 hc1
      go_wp2_with fail
      refine (wnumber_any (wr.heap.size + 1) (wr.heap.size + 2) (.slice none 0 0) [] 127 (by decide) _ HS2.out (by decide) HZ.out).mono ?_
      rintro e x2 ⟨rfl, v2, h1, hc1⟩
      rw [kw_m0] at h1
      have HS1 := hid (HS1.out.otherW hc1 (by omega) (fun h => by cases h) (fun k h => ⟨by have := (World.ownsRow.lt HS1.out.own k h).1; omega, fun h => by cases h⟩))
      have HS2 := hid h1
      have HW := hid (WC.toBelow HW.out hc1 (Nat.le_trans HT.out (Nat.le_succ _)) (fun k h => by cases h))
      clear h1 hc1
      go_wp2_with fail
      refine (wbytes_any wr.heap.size (wr.heap.size + 2) v1 [0] _ HS1.out (by decide)).mono ?_
      rintro e x3 ⟨B1, rfl, hB, _, hb3⟩
      have HY := hid hB
      have HS1 := hid (HS1.out.below hb3)
      have HS2 := hid (HS2.out.below hb3)
      have HW := hid (g_trans HW.out hb3)
      clear hB hb3
      simp only [List.length_cons, List.length_nil, Nat.reduceAdd]
      go_wp2_with fail
      refine (of_v B1 [0] 1 rfl HY.out (by decide) (byt_none HY.out (by decide))).mono ?_
      rintro e x4 ⟨r1, C1, rfl, hR, hb4⟩
      have HR1 := hid hR
      have HS1 := hid (HS1.out.below hb4)
      have HS2 := hid (HS2.out.below hb4)
      have HL1 := hid hb4.size
      have HX3 := hid (show w.heap.size ≤ x3.heap.size from HW.out.size)
      have HW := hid (g_trans HW.out hb4)
      clear hR hb4 HY
      go_wp2_with fail
      refine (wbytes_any (wr.heap.size + 1) (wr.heap.size + 2) v2 [127] _ HS2.out (by decide)).mono ?_
      rintro e x5 ⟨B2, rfl, hB, _, hb5⟩
      have HY := hid hB
      have HS1 := hid (HS1.out.below hb5)
      have HS2 := hid (HS2.out.below hb5)
      have HR1 := hid (HR1.out.below hb5)
      have HL2 := hid hb5.size
      have HW := hid (g_trans HW.out hb5)
      clear hB hb5
      simp only [List.length_cons, List.length_nil, Nat.reduceAdd]
      go_wp2_with fail
      refine (of_v B2 [127] 1 rfl HY.out (by decide) (byt_none HY.out (by decide))).mono ?_
      rintro e x6 ⟨r2, C2, rfl, hR, hb6⟩
      have HR2 := hid hR
      have HS1 := hid (HS1.out.below hb6)
      have HS2 := hid (HS2.out.below hb6)
      have HR1 := hid (HR1.out.below hb6)
      have HW := hid (g_trans HW.out hb6)
      clear hR hb6 HY
      go_wp2_with fail
      refine (wlen_any wr.heap.size (wr.heap.size + 2) v1 [0] _ HS1.out).mono ?_
      rintro e x7 ⟨rfl, rfl⟩
      simp only [List.length_cons, List.length_nil, Nat.reduceAdd]
      go_wp2_with fail
      refine (wlen_any (wr.heap.size + 1) (wr.heap.size + 2) v2 [127] _ HS2.out).mono ?_
      rintro e x8 ⟨rfl, rfl⟩
      simp only [List.length_cons, List.length_nil, Nat.reduceAdd]
      clear HS1 HS2
      go_wp2_with fail
      refine (number_v HR1.out.1 kr_l0).mono ?_
      rintro e x9 ⟨rfl, hR, hg⟩
      have HR2 := hid (HR2.out.other hg (by have := HR1.out.2.2.1; have := HL2.out; omega))
      have HW := hid (gb_to_below HW.out hg (by have := HR1.out.2.1; have := HX3.out; omega))
      clear hR hg
      go_wp2_with fail
      refine (number_v HR2.out.1 kr_m0).mono ?_
      rintro e x10 ⟨rfl, hR, hg⟩
      have HW := hid (gb_to_below HW.out hg (by have := HR2.out.2.1; have := HX3.out; have := HL1.out; have := HL2.out; omega))
      clear hR hg
      go_wp2
      go_roundg (10 - (0 + 1))
      case measure => have := HK.out; omega
      case rel => exact ⟨0 + 1, rfl, by omega, by go_num, HW.out⟩
    · as_aux_lemma =>
      go_wp2
      go_quiet (fail)
      have hs1 : WS (((wr.drewN nq).alloc (.cells #[.slice none 0 0] 27)).alloc (.cells #[.slice none 0 0] 27)) wr.heap.size (wr.heap.size + 2) (.slice none 0 0) [] := (ws0 (wr.drewN nq) _).below (g_alloc g_refl _)
      have hs2 : WS (((wr.drewN nq).alloc (.cells #[.slice none 0 0] 27)).alloc (.cells #[.slice none 0 0] 27)) (wr.heap.size + 1) (wr.heap.size + 2) (.slice none 0 0) [] := by
        have h := ws0 ((wr.drewN nq).alloc (.cells #[.slice none 0 0] 27)) (wr.heap.size + 2)
        rwa [show ((wr.drewN nq).alloc (.cells #[.slice none 0 0] 27)).heap.size = wr.heap.size + 1 by simp] at h
      have hz : wr.heap.size + 2 ≤ (((wr.drewN nq).alloc (.cells #[.slice none 0 0] 27)).alloc (.cells #[.slice none 0 0] 27)).heap.size := by simp
      have hbw : Below w.heap.size w (((wr.drewN nq).alloc (.cells #[.slice none 0 0] 27)).alloc (.cells #[.slice none 0 0] 27)) := g_alloc (g_alloc (g_drewN HB.out nq) _) _
      have HS1 := hid hs1
      have HS2 := hid hs2
      have HZ := hid hz
      have HW := hid hbw
      have HT := hid HB.out.size
      clear hs1 hs2 hz hbw
      go_wp2_with fail
      refine (wnumber_any wr.heap.size (wr.heap.size + 2) (.slice none 0 0) [] 128 (by decide) _ HS1.out (by decide) HZ.out).mono ?_
      rintro e x1 ⟨rfl, v1, h1, hc1⟩
      rw [kw_l1] at h1
      have HS1 := hid h1
      have HS2 := hid (HS2.out.otherW hc1 (by omega) (fun h => by cases h) (fun k h => by cases h))
      have HZ := hid (Nat.le_trans HZ.out hc1.size)
      have HW := hid (WC.toBelow HW.out hc1 HT.out (fun k h => by cases h))
      clear h1 hc1
      go_wp2_with fail
      refine (wnumber_any (wr.heap.size + 1) (wr.heap.size + 2) (.slice none 0 0) [] 16383 (by decide) _ HS2.out (by decide) HZ.out).mono ?_
      rintro e x2 ⟨rfl, v2, h1, hc1⟩
      rw [kw_m1] at h1
      have HS1 := hid (HS1.out.otherW hc1 (by omega) (fun h => by cases h) (fun k h => ⟨by have := (World.ownsRow.lt HS1.out.own k h).1; omega, fun h => by cases h⟩))
      have HS2 := hid h1
      have HW := hid (WC.toBelow HW.out hc1 (Nat.le_trans HT.out (Nat.le_succ _)) (fun k h => by cases h))
      clear h1 hc1
      go_wp2_with fail
      refine (wbytes_any wr.heap.size (wr.heap.size + 2) v1 [128, 1] _ HS1.out (by decide)).mono ?_
      rintro e x3 ⟨B1, rfl, hB, _, hb3⟩
      have HY := hid hB
      have HS1 := hid (HS1.out.below hb3)
      have HS2 := hid (HS2.out.below hb3)
      have HW := hid (g_trans HW.out hb3)
      clear hB hb3
      simp only [List.length_cons, List.length_nil, Nat.reduceAdd]
      go_wp2_with fail
      refine (of_v B1 [128, 1] 2 rfl HY.out (by decide) (byt_none HY.out (by decide))).mono ?_
      rintro e x4 ⟨r1, C1, rfl, hR, hb4⟩
      have HR1 := hid hR
      have HS1 := hid (HS1.out.below hb4)
      have HS2 := hid (HS2.out.below hb4)
      have HL1 := hid hb4.size
      have HX3 := hid (show w.heap.size ≤ x3.heap.size from HW.out.size)
      have HW := hid (g_trans HW.out hb4)
      clear hR hb4 HY
      go_wp2_with fail
      refine (wbytes_any (wr.heap.size + 1) (wr.heap.size + 2) v2 [255, 127] _ HS2.out (by decide)).mono ?_
      rintro e x5 ⟨B2, rfl, hB, _, hb5⟩
      have HY := hid hB
      have HS1 := hid (HS1.out.below hb5)
      have HS2 := hid (HS2.out.below hb5)
      have HR1 := hid (HR1.out.below hb5)
      have HL2 := hid hb5.size
      have HW := hid (g_trans HW.out hb5)
      clear hB hb5
      simp only [List.length_cons, List.length_nil, Nat.reduceAdd]
      go_wp2_with fail
      refine (of_v B2 [255, 127] 2 rfl HY.out (by decide) (byt_none HY.out (by decide))).mono ?_
      rintro e x6 ⟨r2, C2, rfl, hR, hb6⟩
      have HR2 := hid hR
      have HS1 := hid (HS1.out.below hb6)
      have HS2 := hid (HS2.out.below hb6)
      have HR1 := hid (HR1.out.below hb6)
      have HW := hid (g_trans HW.out hb6)
      clear hR hb6 HY
      go_wp2_with fail
      refine (wlen_any wr.heap.size (wr.heap.size + 2) v1 [128, 1] _ HS1.out).mono ?_
      rintro e x7 ⟨rfl, rfl⟩
      simp only [List.length_cons, List.length_nil, Nat.reduceAdd]
      go_wp2_with fail
      refine (wlen_any (wr.heap.size + 1) (wr.heap.size + 2) v2 [255, 127] _ HS2.out).mono ?_
      rintro e x8 ⟨rfl, rfl⟩
      simp only [List.length_cons, List.length_nil, Nat.reduceAdd]
      clear HS1 HS2
      go_wp2_with fail
      refine (number_v HR1.out.1 kr_l1).mono ?_
      rintro e x9 ⟨rfl, hR, hg⟩
      have HR2 := hid (HR2.out.other hg (by have := HR1.out.2.2.1; have := HL2.out; omega))
      have HW := hid (gb_to_below HW.out hg (by have := HR1.out.2.1; have := HX3.out; omega))
      clear hR hg
      go_wp2_with fail
      refine (number_v HR2.out.1 kr_m1).mono ?_
      rintro e x10 ⟨rfl, hR, hg⟩
      have HW := hid (gb_to_below HW.out hg (by have := HR2.out.2.1; have := HX3.out; have := HL1.out; have := HL2.out; omega))
      clear hR hg
      go_wp2
      go_roundg (10 - (1 + 1))
      case measure => have := HK.out; omega
      case rel => exact ⟨1 + 1, rfl, by omega, by go_num, HW.out⟩
    · as_aux_lemma =>
      go_wp2
      go_quiet (fail)
      have hs1 : WS (((wr.drewN nq).alloc (.cells #[.slice none 0 0] 27)).alloc (.cells #[.slice none 0 0] 27)) wr.heap.size (wr.heap.size + 2) (.slice none 0 0) [] := (ws0 (wr.drewN nq) _).below (g_alloc g_refl _)
      have hs2 : WS (((wr.drewN nq).alloc (.cells #[.slice none 0 0] 27)).alloc (.cells #[.slice none 0 0] 27)) (wr.heap.size + 1) (wr.heap.size + 2) (.slice none 0 0) [] := by
        have h := ws0 ((wr.drewN nq).alloc (.cells #[.slice none 0 0] 27)) (wr.heap.size + 2)
        rwa [show ((wr.drewN nq).alloc (.cells #[.slice none 0 0] 27)).heap.size = wr.heap.size + 1 by simp] at h
      have hz : wr.heap.size + 2 ≤ (((wr.drewN nq).alloc (.cells #[.slice none 0 0] 27)).alloc (.cells #[.slice none 0 0] 27)).heap.size := by simp
      have hbw : Below w.heap.size w (((wr.drewN nq).alloc (.cells #[.slice none 0 0] 27)).alloc (.cells #[.slice none 0 0] 27)) := g_alloc (g_alloc (g_drewN HB.out nq) _) _
      have HS1 := hid hs1
      have HS2 := hid hs2
      have HZ := hid hz
      have HW := hid hbw
      have HT := hid HB.out.size
      clear hs1 hs2 hz hbw
      go_wp2_with fail
      refine (wnumber_any wr.heap.size (wr.heap.size + 2) (.slice none 0 0) [] 16384 (by decide) _ HS1.out (by decide) HZ.out).mono ?_
      rintro e x1 ⟨rfl, v1, h1, hc1⟩
      rw [kw_l2] at h1
      have HS1 := hid h1
      have HS2 := hid (HS2.out.otherW hc1 (by omega) (fun h => by cases h) (fun k h => by cases h))
      have HZ := hid (Nat.le_trans HZ.out hc1.size)
      have HW := hid (WC.toBelow HW.out hc1 HT.out (fun k h => by cases h))
      clear h1 hc1
      go_wp2_with fail
      refine (wnumber_any (wr.heap.size + 1) (wr.heap.size + 2) (.slice none 0 0) [] 2097151 (by decide) _ HS2.out (by decide) HZ.out).mono ?_
      rintro e x2 ⟨rfl, v2, h1, hc1⟩
      rw [kw_m2] at h1
      have HS1 := hid (HS1.out.otherW hc1 (by omega) (fun h => by cases h) (fun k h => ⟨by have := (World.ownsRow.lt HS1.out.own k h).1; omega, fun h => by cases h⟩))
      have HS2 := hid h1
      have HW := hid (WC.toBelow HW.out hc1 (Nat.le_trans HT.out (Nat.le_succ _)) (fun k h => by cases h))
      clear h1 hc1
      go_wp2_with fail
      refine (wbytes_any wr.heap.size (wr.heap.size + 2) v1 [128, 128, 1] _ HS1.out (by decide)).mono ?_
      rintro e x3 ⟨B1, rfl, hB, _, hb3⟩
      have HY := hid hB
      have HS1 := hid (HS1.out.below hb3)
      have HS2 := hid (HS2.out.below hb3)
      have HW := hid (g_trans HW.out hb3)
      clear hB hb3
      simp only [List.length_cons, List.length_nil, Nat.reduceAdd]
      go_wp2_with fail
      refine (of_v B1 [128, 128, 1] 3 rfl HY.out (by decide) (byt_none HY.out (by decide))).mono ?_
      rintro e x4 ⟨r1, C1, rfl, hR, hb4⟩
      have HR1 := hid hR
      have HS1 := hid (HS1.out.below hb4)
      have HS2 := hid (HS2.out.below hb4)
      have HL1 := hid hb4.size
      have HX3 := hid (show w.heap.size ≤ x3.heap.size from HW.out.size)
      have HW := hid (g_trans HW.out hb4)
      clear hR hb4 HY
      go_wp2_with fail
      refine (wbytes_any (wr.heap.size + 1) (wr.heap.size + 2) v2 [255, 255, 127] _ HS2.out (by decide)).mono ?_
      rintro e x5 ⟨B2, rfl, hB, _, hb5⟩
      have HY := hid hB
      have HS1 := hid (HS1.out.below hb5)
      have HS2 := hid (HS2.out.below hb5)
      have HR1 := hid (HR1.out.below hb5)
      have HL2 := hid hb5.size
      have HW := hid (g_trans HW.out hb5)
      clear hB hb5
      simp only [List.length_cons, List.length_nil, Nat.reduceAdd]
      go_wp2_with fail
      refine (of_v B2 [255, 255, 127] 3 rfl HY.out (by decide) (byt_none HY.out (by decide))).mono ?_
      rintro e x6 ⟨r2, C2, rfl, hR, hb6⟩
      have HR2 := hid hR
      have HS1 := hid (HS1.out.below hb6)
      have HS2 := hid (HS2.out.below hb6)
      have HR1 := hid (HR1.out.below hb6)
      have HW := hid (g_trans HW.out hb6)
      clear hR hb6 HY
      go_wp2_with fail
      refine (wlen_any wr.heap.size (wr.heap.size + 2) v1 [128, 128, 1] _ HS1.out).mono ?_
      rintro e x7 ⟨rfl, rfl⟩
      simp only [List.length_cons, List.length_nil, Nat.reduceAdd]
      go_wp2_with fail
      refine (wlen_any (wr.heap.size + 1) (wr.heap.size + 2) v2 [255, 255, 127] _ HS2.out).mono ?_
      rintro e x8 ⟨rfl, rfl⟩
      simp only [List.length_cons, List.length_nil, Nat.reduceAdd]
      clear HS1 HS2
      go_wp2_with fail
      refine (number_v HR1.out.1 kr_l2).mono ?_
      rintro e x9 ⟨rfl, hR, hg⟩
      have HR2 := hid (HR2.out.other hg (by have := HR1.out.2.2.1; have := HL2.out; omega))
      have HW := hid (gb_to_below HW.out hg (by have := HR1.out.2.1; have := HX3.out; omega))
      clear hR hg
      go_wp2_with fail
      refine (number_v HR2.out.1 kr_m2).mono ?_
      rintro e x10 ⟨rfl, hR, hg⟩
      have HW := hid (gb_to_below HW.out hg (by have := HR2.out.2.1; have := HX3.out; have := HL1.out; have := HL2.out; omega))
      clear hR hg
      go_wp2
      go_roundg (10 - (2 + 1))
      case measure => have := HK.out; omega
      case rel => exact ⟨2 + 1, rfl, by omega, by go_num, HW.out⟩
    · as_aux_lemma =>
      go_wp2
      go_quiet (fail)
      have hs1 : WS (((wr.drewN nq).alloc (.cells #[.slice none 0 0] 27)).alloc (.cells #[.slice none 0 0] 27)) wr.heap.size (wr.heap.size + 2) (.slice none 0 0) [] := (ws0 (wr.drewN nq) _).below (g_alloc g_refl _)
      have hs2 : WS (((wr.drewN nq).alloc (.cells #[.slice none 0 0] 27)).alloc (.cells #[.slice none 0 0] 27)) (wr.heap.size + 1) (wr.heap.size + 2) (.slice none 0 0) [] := by
        have h := ws0 ((wr.drewN nq).alloc (.cells #[.slice none 0 0] 27)) (wr.heap.size + 2)
        rwa [show ((wr.drewN nq).alloc (.cells #[.slice none 0 0] 27)).heap.size = wr.heap.size + 1 by simp] at h
      have hz : wr.heap.size + 2 ≤ (((wr.drewN nq).alloc (.cells #[.slice none 0 0] 27)).alloc (.cells #[.slice none 0 0] 27)).heap.size := by simp
      have hbw : Below w.heap.size w (((wr.drewN nq).alloc (.cells #[.slice none 0 0] 27)).alloc (.cells #[.slice none 0 0] 27)) := g_alloc (g_alloc (g_drewN HB.out nq) _) _
      have HS1 := hid hs1
      have HS2 := hid hs2
      have HZ := hid hz
      have HW := hid hbw
      have HT := hid HB.out.size
      clear hs1 hs2 hz hbw
      go_wp2_with fail
      refine (wnumber_any wr.heap.size (wr.heap.size + 2) (.slice none 0 0) [] 2097152 (by decide) _ HS1.out (by decide) HZ.out).mono ?_
      rintro e x1 ⟨rfl, v1, h1, hc1⟩
      rw [kw_l3] at h1
      have HS1 := hid h1
      have HS2 := hid (HS2.out.otherW hc1 (by omega) (fun h => by cases h) (fun k h => by cases h))
      have HZ := hid (Nat.le_trans HZ.out hc1.size)
      have HW := hid (WC.toBelow HW.out hc1 HT.out (fun k h => by cases h))
      clear h1 hc1
      go_wp2_with fail
      refine (wnumber_any (wr.heap.size + 1) (wr.heap.size + 2) (.slice none 0 0) [] 268435455 (by decide) _ HS2.out (by decide) HZ.out).mono ?_
      rintro e x2 ⟨rfl, v2, h1, hc1⟩
      rw [kw_m3] at h1
      have HS1 := hid (HS1.out.otherW hc1 (by omega) (fun h => by cases h) (fun k h => ⟨by have := (World.ownsRow.lt HS1.out.own k h).1; omega, fun h => by cases h⟩))
      have HS2 := hid h1
      have HW := hid (WC.toBelow HW.out hc1 (Nat.le_trans HT.out (Nat.le_succ _)) (fun k h => by cases h))
      clear h1 hc1
      go_wp2_with fail
      refine (wbytes_any wr.heap.size (wr.heap.size + 2) v1 [128, 128, 128, 1] _ HS1.out (by decide)).mono ?_
      rintro e x3 ⟨B1, rfl, hB, _, hb3⟩
      have HY := hid hB
      have HS1 := hid (HS1.out.below hb3)
      have HS2 := hid (HS2.out.below hb3)
      have HW := hid (g_trans HW.out hb3)
      clear hB hb3
      simp only [List.length_cons, List.length_nil, Nat.reduceAdd]
      go_wp2_with fail
      refine (of_v B1 [128, 128, 128, 1] 4 rfl HY.out (by decide) (byt_none HY.out (by decide))).mono ?_
      rintro e x4 ⟨r1, C1, rfl, hR, hb4⟩
      have HR1 := hid hR
      have HS1 := hid (HS1.out.below hb4)
      have HS2 := hid (HS2.out.below hb4)
      have HL1 := hid hb4.size
      have HX3 := hid (show w.heap.size ≤ x3.heap.size from HW.out.size)
      have HW := hid (g_trans HW.out hb4)
      clear hR hb4 HY
      go_wp2_with fail
      refine (wbytes_any (wr.heap.size + 1) (wr.heap.size + 2) v2 [255, 255, 255, 127] _ HS2.out (by decide)).mono ?_
      rintro e x5 ⟨B2, rfl, hB, _, hb5⟩
      have HY := hid hB
      have HS1 := hid (HS1.out.below hb5)
      have HS2 := hid (HS2.out.below hb5)
      have HR1 := hid (HR1.out.below hb5)
      have HL2 := hid hb5.size
      have HW := hid (g_trans HW.out hb5)
      clear hB hb5
      simp only [List.length_cons, List.length_nil, Nat.reduceAdd]
      go_wp2_with fail
      refine (of_v B2 [255, 255, 255, 127] 4 rfl HY.out (by decide) (byt_none HY.out (by decide))).mono ?_
      rintro e x6 ⟨r2, C2, rfl, hR, hb6⟩
      have HR2 := hid hR
      have HS1 := hid (HS1.out.below hb6)
      have HS2 := hid (HS2.out.below hb6)
      have HR1 := hid (HR1.out.below hb6)
      have HW := hid (g_trans HW.out hb6)
      clear hR hb6 HY
      go_wp2_with fail
      refine (wlen_any wr.heap.size (wr.heap.size + 2) v1 [128, 128, 128, 1] _ HS1.out).mono ?_
      rintro e x7 ⟨rfl, rfl⟩
      simp only [List.length_cons, List.length_nil, Nat.reduceAdd]
      go_wp2_with fail
      refine (wlen_any (wr.heap.size + 1) (wr.heap.size + 2) v2 [255, 255, 255, 127] _ HS2.out).mono ?_
      rintro e x8 ⟨rfl, rfl⟩
      simp only [List.length_cons, List.length_nil, Nat.reduceAdd]
      clear HS1 HS2
      go_wp2_with fail
      refine (number_v HR1.out.1 kr_l3).mono ?_
      rintro e x9 ⟨rfl, hR, hg⟩
      have HR2 := hid (HR2.out.other hg (by have := HR1.out.2.2.1; have := HL2.out; omega))
      have HW := hid (gb_to_below HW.out hg (by have := HR1.out.2.1; have := HX3.out; omega))
      clear hR hg
      go_wp2_with fail
      refine (number_v HR2.out.1 kr_m3).mono ?_
      rintro e x10 ⟨rfl, hR, hg⟩
      have HW := hid (gb_to_below HW.out hg (by have := HR2.out.2.1; have := HX3.out; have := HL1.out; have := HL2.out; omega))
      clear hR hg
      go_wp2
      go_roundg (10 - (3 + 1))
      case measure => have := HK.out; omega
      case rel => exact ⟨3 + 1, rfl, by omega, by go_num, HW.out⟩
    · as_aux_lemma =>
      go_wp2
      go_quiet (fail)
      have hs1 : WS (((wr.drewN nq).alloc (.cells #[.slice none 0 0] 27)).alloc (.cells #[.slice none 0 0] 27)) wr.heap.size (wr.heap.size + 2) (.slice none 0 0) [] := (ws0 (wr.drewN nq) _).below (g_alloc g_refl _)
      have hs2 : WS (((wr.drewN nq).alloc (.cells #[.slice none 0 0] 27)).alloc (.cells #[.slice none 0 0] 27)) (wr.heap.size + 1) (wr.heap.size + 2) (.slice none 0 0) [] := by
        have h := ws0 ((wr.drewN nq).alloc (.cells #[.slice none 0 0] 27)) (wr.heap.size + 2)
        rwa [show ((wr.drewN nq).alloc (.cells #[.slice none 0 0] 27)).heap.size = wr.heap.size + 1 by simp] at h
      have hz : wr.heap.size + 2 ≤ (((wr.drewN nq).alloc (.cells #[.slice none 0 0] 27)).alloc (.cells #[.slice none 0 0] 27)).heap.size := by simp
      have hbw : Below w.heap.size w (((wr.drewN nq).alloc (.cells #[.slice none 0 0] 27)).alloc (.cells #[.slice none 0 0] 27)) := g_alloc (g_alloc (g_drewN HB.out nq) _) _
      have HS1 := hid hs1
      have HS2 := hid hs2
      have HZ := hid hz
      have HW := hid hbw
      have HT := hid HB.out.size
      clear hs1 hs2 hz hbw
      go_wp2_with fail
      refine (wnumber_any wr.heap.size (wr.heap.size + 2) (.slice none 0 0) [] 268435456 (by decide) _ HS1.out (by decide) HZ.out).mono ?_
      rintro e x1 ⟨rfl, v1, h1, hc1⟩
      rw [kw_l4] at h1
      have HS1 := hid h1
      have HS2 := hid (HS2.out.otherW hc1 (by omega) (fun h => by cases h) (fun k h => by cases h))
      have HZ := hid (Nat.le_trans HZ.out hc1.size)
      have HW := hid (WC.toBelow HW.out hc1 HT.out (fun k h => by cases h))
      clear h1 hc1
      go_wp2_with fail
      refine (wnumber_any (wr.heap.size + 1) (wr.heap.size + 2) (.slice none 0 0) [] 34359738367 (by decide) _ HS2.out (by decide) HZ.out).mono ?_
      rintro e x2 ⟨rfl, v2, h1, hc1⟩
      rw [kw_m4] at h1
      have HS1 := hid (HS1.out.otherW hc1 (by omega) (fun h => by cases h) (fun k h => ⟨by have := (World.ownsRow.lt HS1.out.own k h).1; omega, fun h => by cases h⟩))
      have HS2 := hid h1
      have HW := hid (WC.toBelow HW.out hc1 (Nat.le_trans HT.out (Nat.le_succ _)) (fun k h => by cases h))
      clear h1 hc1
      go_wp2_with fail
      refine (wbytes_any wr.heap.size (wr.heap.size + 2) v1 [128, 128, 128, 128, 1] _ HS1.out (by decide)).mono ?_
      rintro e x3 ⟨B1, rfl, hB, _, hb3⟩
      have HY := hid hB
      have HS1 := hid (HS1.out.below hb3)
      have HS2 := hid (HS2.out.below hb3)
      have HW := hid (g_trans HW.out hb3)
      clear hB hb3
      simp only [List.length_cons, List.length_nil, Nat.reduceAdd]
      go_wp2_with fail
      refine (of_v B1 [128, 128, 128, 128, 1] 5 rfl HY.out (by decide) (byt_none HY.out (by decide))).mono ?_
      rintro e x4 ⟨r1, C1, rfl, hR, hb4⟩
      have HR1 := hid hR
      have HS1 := hid (HS1.out.below hb4)
      have HS2 := hid (HS2.out.below hb4)
      have HL1 := hid hb4.size
      have HX3 := hid (show w.heap.size ≤ x3.heap.size from HW.out.size)
      have HW := hid (g_trans HW.out hb4)
      clear hR hb4 HY
      go_wp2_with fail
      refine (wbytes_any (wr.heap.size + 1) (wr.heap.size + 2) v2 [255, 255, 255, 255, 127] _ HS2.out (by decide)).mono ?_
      rintro e x5 ⟨B2, rfl, hB, _, hb5⟩
      have HY := hid hB
      have HS1 := hid (HS1.out.below hb5)
      have HS2 := hid (HS2.out.below hb5)
      have HR1 := hid (HR1.out.below hb5)
      have HL2 := hid hb5.size
      have HW := hid (g_trans HW.out hb5)
      clear hB hb5
      simp only [List.length_cons, List.length_nil, Nat.reduceAdd]
      go_wp2_with fail
      refine (of_v B2 [255, 255, 255, 255, 127] 5 rfl HY.out (by decide) (byt_none HY.out (by decide))).mono ?_
      rintro e x6 ⟨r2, C2, rfl, hR, hb6⟩
      have HR2 := hid hR
      have HS1 := hid (HS1.out.below hb6)
      have HS2 := hid (HS2.out.below hb6)
      have HR1 := hid (HR1.out.below hb6)
      have HW := hid (g_trans HW.out hb6)
      clear hR hb6 HY
      go_wp2_with fail
      refine (wlen_any wr.heap.size (wr.heap.size + 2) v1 [128, 128, 128, 128, 1] _ HS1.out).mono ?_
      rintro e x7 ⟨rfl, rfl⟩
      simp only [List.length_cons, List.length_nil, Nat.reduceAdd]
      go_wp2_with fail
      refine (wlen_any (wr.heap.size + 1) (wr.heap.size + 2) v2 [255, 255, 255, 255, 127] _ HS2.out).mono ?_
      rintro e x8 ⟨rfl, rfl⟩
      simp only [List.length_cons, List.length_nil, Nat.reduceAdd]
      clear HS1 HS2
      go_wp2_with fail
      refine (number_v HR1.out.1 kr_l4).mono ?_
      rintro e x9 ⟨rfl, hR, hg⟩
      have HR2 := hid (HR2.out.other hg (by have := HR1.out.2.2.1; have := HL2.out; omega))
      have HW := hid (gb_to_below HW.out hg (by have := HR1.out.2.1; have := HX3.out; omega))
      clear hR hg
      go_wp2_with fail
      refine (number_v HR2.out.1 kr_m4).mono ?_
      rintro e x10 ⟨rfl, hR, hg⟩
      have HW := hid (gb_to_below HW.out hg (by have := HR2.out.2.1; have := HX3.out; have := HL1.out; have := HL2.out; omega))
      clear hR hg
      go_wp2
      go_roundg (10 - (4 + 1))
      case measure => have := HK.out; omega
      case rel => exact ⟨4 + 1, rfl, by omega, by go_num, HW.out⟩
    · as_aux_lemma =>
      go_wp2
      go_quiet (fail)
      have hs1 : WS (((wr.drewN nq).alloc (.cells #[.slice none 0 0] 27)).alloc (.cells #[.slice none 0 0] 27)) wr.heap.size (wr.heap.size + 2) (.slice none 0 0) [] := (ws0 (wr.drewN nq) _).below (g_alloc g_refl _)
      have hs2 : WS (((wr.drewN nq).alloc (.cells #[.slice none 0 0] 27)).alloc (.cells #[.slice none 0 0] 27)) (wr.heap.size + 1) (wr.heap.size + 2) (.slice none 0 0) [] := by
        have h := ws0 ((wr.drewN nq).alloc (.cells #[.slice none 0 0] 27)) (wr.heap.size + 2)
        rwa [show ((wr.drewN nq).alloc (.cells #[.slice none 0 0] 27)).heap.size = wr.heap.size + 1 by simp] at h
      have hz : wr.heap.size + 2 ≤ (((wr.drewN nq).alloc (.cells #[.slice none 0 0] 27)).alloc (.cells #[.slice none 0 0] 27)).heap.size := by simp
      have hbw : Below w.heap.size w (((wr.drewN nq).alloc (.cells #[.slice none 0 0] 27)).alloc (.cells #[.slice none 0 0] 27)) := g_alloc (g_alloc (g_drewN HB.out nq) _) _
      have HS1 := hid hs1
      have HS2 := hid hs2
      have HZ := hid hz
      have HW := hid hbw
      have HT := hid HB.out.size
      clear hs1 hs2 hz hbw
      go_wp2_with fail
      refine (wnumber_any wr.heap.size (wr.heap.size + 2) (.slice none 0 0) [] 34359738368 (by decide) _ HS1.out (by decide) HZ.out).mono ?_
      rintro e x1 ⟨rfl, v1, h1, hc1⟩
      rw [kw_l5] at h1
      have HS1 := hid h1
      have HS2 := hid (HS2.out.otherW hc1 (by omega) (fun h => by cases h) (fun k h => by cases h))
      have HZ := hid (Nat.le_trans HZ.out hc1.size)
      have HW := hid (WC.toBelow HW.out hc1 HT.out (fun k h => by cases h))
      clear h1 hc1
      go_wp2_with fail
      refine (wnumber_any (wr.heap.size + 1) (wr.heap.size + 2) (.slice none 0 0) [] 4398046511103 (by decide) _ HS2.out (by decide) HZ.out).mono ?_
      rintro e x2 ⟨rfl, v2, h1, hc1⟩
      rw [kw_m5] at h1
      have HS1 := hid (HS1.out.otherW hc1 (by omega) (fun h => by cases h) (fun k h => ⟨by have := (World.ownsRow.lt HS1.out.own k h).1; omega, fun h => by cases h⟩))
      have HS2 := hid h1
      have HW := hid (WC.toBelow HW.out hc1 (Nat.le_trans HT.out (Nat.le_succ _)) (fun k h => by cases h))
      clear h1 hc1
      go_wp2_with fail
      refine (wbytes_any wr.heap.size (wr.heap.size + 2) v1 [128, 128, 128, 128, 128, 1] _ HS1.out (by decide)).mono ?_
      rintro e x3 ⟨B1, rfl, hB, _, hb3⟩
      have HY := hid hB
      have HS1 := hid (HS1.out.below hb3)
      have HS2 := hid (HS2.out.below hb3)
      have HW := hid (g_trans HW.out hb3)
      clear hB hb3
      simp only [List.length_cons, List.length_nil, Nat.reduceAdd]
      go_wp2_with fail
      refine (of_v B1 [128, 128, 128, 128, 128, 1] 6 rfl HY.out (by decide) (byt_none HY.out (by decide))).mono ?_
      rintro e x4 ⟨r1, C1, rfl, hR, hb4⟩
      have HR1 := hid hR
      have HS1 := hid (HS1.out.below hb4)
      have HS2 := hid (HS2.out.below hb4)
      have HL1 := hid hb4.size
      have HX3 := hid (show w.heap.size ≤ x3.heap.size from HW.out.size)
      have HW := hid (g_trans HW.out hb4)
      clear hR hb4 HY
      go_wp2_with fail
      refine (wbytes_any (wr.heap.size + 1) (wr.heap.size + 2) v2 [255, 255, 255, 255, 255, 127] _ HS2.out (by decide)).mono ?_
      rintro e x5 ⟨B2, rfl, hB, _, hb5⟩
      have HY := hid hB
      have HS1 := hid (HS1.out.below hb5)
      have HS2 := hid (HS2.out.below hb5)
      have HR1 := hid (HR1.out.below hb5)
      have HL2 := hid hb5.size
      have HW := hid (g_trans HW.out hb5)
      clear hB hb5
      simp only [List.length_cons, List.length_nil, Nat.reduceAdd]
      go_wp2_with fail
      refine (of_v B2 [255, 255, 255, 255, 255, 127] 6 rfl HY.out (by decide) (byt_none HY.out (by decide))).mono ?_
      rintro e x6 ⟨r2, C2, rfl, hR, hb6⟩
      have HR2 := hid hR
      have HS1 := hid (HS1.out.below hb6)
      have HS2 := hid (HS2.out.below hb6)
      have HR1 := hid (HR1.out.below hb6)
      have HW := hid (g_trans HW.out hb6)
      clear hR hb6 HY
      go_wp2_with fail
      refine (wlen_any wr.heap.size (wr.heap.size + 2) v1 [128, 128, 128, 128, 128, 1] _ HS1.out).mono ?_
      rintro e x7 ⟨rfl, rfl⟩
      simp only [List.length_cons, List.length_nil, Nat.reduceAdd]
      go_wp2_with fail
      refine (wlen_any (wr.heap.size + 1) (wr.heap.size + 2) v2 [255, 255, 255, 255, 255, 127] _ HS2.out).mono ?_
      rintro e x8 ⟨rfl, rfl⟩
      simp only [List.length_cons, List.length_nil, Nat.reduceAdd]
      clear HS1 HS2
      go_wp2_with fail
      refine (number_v HR1.out.1 kr_l5).mono ?_
      rintro e x9 ⟨rfl, hR, hg⟩
      have HR2 := hid (HR2.out.other hg (by have := HR1.out.2.2.1; have := HL2.out; omega))
      have HW := hid (gb_to_below HW.out hg (by have := HR1.out.2.1; have := HX3.out; omega))
      clear hR hg
      go_wp2_with fail
      refine (number_v HR2.out.1 kr_m5).mono ?_
      rintro e x10 ⟨rfl, hR, hg⟩
      have HW := hid (gb_to_below HW.out hg (by have := HR2.out.2.1; have := HX3.out; have := HL1.out; have := HL2.out; omega))
      clear hR hg
      go_wp2
      go_roundg (10 - (5 + 1))
      case measure => have := HK.out; omega
      case rel => exact ⟨5 + 1, rfl, by omega, by go_num, HW.out⟩
    · as_aux_lemma =>
      go_wp2
      go_quiet (fail)
      have hs1 : WS (((wr.drewN nq).alloc (.cells #[.slice none 0 0] 27)).alloc (.cells #[.slice none 0 0] 27)) wr.heap.size (wr.heap.size + 2) (.slice none 0 0) [] := (ws0 (wr.drewN nq) _).below (g_alloc g_refl _)
      have hs2 : WS (((wr.drewN nq).alloc (.cells #[.slice none 0 0] 27)).alloc (.cells #[.slice none 0 0] 27)) (wr.heap.size + 1) (wr.heap.size + 2) (.slice none 0 0) [] := by
        have h := ws0 ((wr.drewN nq).alloc (.cells #[.slice none 0 0] 27)) (wr.heap.size + 2)
        rwa [show ((wr.drewN nq).alloc (.cells #[.slice none 0 0] 27)).heap.size = wr.heap.size + 1 by simp] at h
      have hz : wr.heap.size + 2 ≤ (((wr.drewN nq).alloc (.cells #[.slice none 0 0] 27)).alloc (.cells #[.slice none 0 0] 27)).heap.size := by simp
      have hbw : Below w.heap.size w (((wr.drewN nq).alloc (.cells #[.slice none 0 0] 27)).alloc (.cells #[.slice none 0 0] 27)) := g_alloc (g_alloc (g_drewN HB.out nq) _) _
      have HS1 := hid hs1
      have HS2 := hid hs2
      have HZ := hid hz
      have HW := hid hbw
      have HT := hid HB.out.size
      clear hs1 hs2 hz hbw
      go_wp2_with fail
      refine (wnumber_any wr.heap.size (wr.heap.size + 2) (.slice none 0 0) [] 4398046511104 (by decide) _ HS1.out (by decide) HZ.out).mono ?_
      rintro e x1 ⟨rfl, v1, h1, hc1⟩
      rw [kw_l6] at h1
      have HS1 := hid h1
      have HS2 := hid (HS2.out.otherW hc1 (by omega) (fun h => by cases h) (fun k h => by cases h))
      have HZ := hid (Nat.le_trans HZ.out hc1.size)
      have HW := hid (WC.toBelow HW.out hc1 HT.out (fun k h => by cases h))
      clear h1 hc1
      go_wp2_with fail
      refine (wnumber_any (wr.heap.size + 1) (wr.heap.size + 2) (.slice none 0 0) [] 562949953421311 (by decide) _ HS2.out (by decide) HZ.out).mono ?_
      rintro e x2 ⟨rfl, v2, h1, hc1⟩
      rw [kw_m6] at h1
      have HS1 := hid (HS1.out.otherW hc1 (by omega) (fun h => by cases h) (fun k h => ⟨by have := (World.ownsRow.lt HS1.out.own k h).1; omega, fun h => by cases h⟩))
      have HS2 := hid h1
      have HW := hid (WC.toBelow HW.out hc1 (Nat.le_trans HT.out (Nat.le_succ _)) (fun k h => by cases h))
      clear h1 hc1
      go_wp2_with fail
      refine (wbytes_any wr.heap.size (wr.heap.size + 2) v1 [128, 128, 128, 128, 128, 128, 1] _ HS1.out (by decide)).mono ?_
      rintro e x3 ⟨B1, rfl, hB, _, hb3⟩
      have HY := hid hB
      have HS1 := hid (HS1.out.below hb3)
      have HS2 := hid (HS2.out.below hb3)
      have HW := hid (g_trans HW.out hb3)
      clear hB hb3
      simp only [List.length_cons, List.length_nil, Nat.reduceAdd]
      go_wp2_with fail
      refine (of_v B1 [128, 128, 128, 128, 128, 128, 1] 7 rfl HY.out (by decide) (byt_none HY.out (by decide))).mono ?_
      rintro e x4 ⟨r1, C1, rfl, hR, hb4⟩
      have HR1 := hid hR
      have HS1 := hid (HS1.out.below hb4)
      have HS2 := hid (HS2.out.below hb4)
      have HL1 := hid hb4.size
      have HX3 := hid (show w.heap.size ≤ x3.heap.size from HW.out.size)
      have HW := hid (g_trans HW.out hb4)
      clear hR hb4 HY
      go_wp2_with fail
      refine (wbytes_any (wr.heap.size + 1) (wr.heap.size + 2) v2 [255, 255, 255, 255, 255, 255, 127] _ HS2.out (by decide)).mono ?_
      rintro e x5 ⟨B2, rfl, hB, _, hb5⟩
      have HY := hid hB
      have HS1 := hid (HS1.out.below hb5)
      have HS2 := hid (HS2.out.below hb5)
      have HR1 := hid (HR1.out.below hb5)
      have HL2 := hid hb5.size
      have HW := hid (g_trans HW.out hb5)
      clear hB hb5
      simp only [List.length_cons, List.length_nil, Nat.reduceAdd]
      go_wp2_with fail
      refine (of_v B2 [255, 255, 255, 255, 255, 255, 127] 7 rfl HY.out (by decide) (byt_none HY.out (by decide))).mono ?_
      rintro e x6 ⟨r2, C2, rfl, hR, hb6⟩
      have HR2 := hid hR
      have HS1 := hid (HS1.out.below hb6)
      have HS2 := hid (HS2.out.below hb6)
      have HR1 := hid (HR1.out.below hb6)
      have HW := hid (g_trans HW.out hb6)
      clear hR hb6 HY
      go_wp2_with fail
      refine (wlen_any wr.heap.size (wr.heap.size + 2) v1 [128, 128, 128, 128, 128, 128, 1] _ HS1.out).mono ?_
      rintro e x7 ⟨rfl, rfl⟩
      simp only [List.length_cons, List.length_nil, Nat.reduceAdd]
      go_wp2_with fail
      refine (wlen_any (wr.heap.size + 1) (wr.heap.size + 2) v2 [255, 255, 255, 255, 255, 255, 127] _ HS2.out).mono ?_
      rintro e x8 ⟨rfl, rfl⟩
      simp only [List.length_cons, List.length_nil, Nat.reduceAdd]
      clear HS1 HS2
      go_wp2_with fail
      refine (number_v HR1.out.1 kr_l6).mono ?_
      rintro e x9 ⟨rfl, hR, hg⟩
      have HR2 := hid (HR2.out.other hg (by have := HR1.out.2.2.1; have := HL2.out; omega))
      have HW := hid (gb_to_below HW.out hg (by have := HR1.out.2.1; have := HX3.out; omega))
      clear hR hg
      go_wp2_with fail
      refine (number_v HR2.out.1 kr_m6).mono ?_
      rintro e x10 ⟨rfl, hR, hg⟩
      have HW := hid (gb_to_below HW.out hg (by have := HR2.out.2.1; have := HX3.out; have := HL1.out; have := HL2.out; omega))
      clear hR hg
      go_wp2
      go_roundg (10 - (6 + 1))
      case measure => have := HK.out; omega
      case rel => exact ⟨6 + 1, rfl, by omega, by go_num, HW.out⟩
    · as_aux_lemma =>
      go_wp2
      go_quiet (fail)
      have hs1 : WS (((wr.drewN nq).alloc (.cells #[.slice none 0 0] 27)).alloc (.cells #[.slice none 0 0] 27)) wr.heap.size (wr.heap.size + 2) (.slice none 0 0) [] := (ws0 (wr.drewN nq) _).below (g_alloc g_refl _)
      have hs2 : WS (((wr.drewN nq).alloc (.cells #[.slice none 0 0] 27)).alloc (.cells #[.slice none 0 0] 27)) (wr.heap.size + 1) (wr.heap.size + 2) (.slice none 0 0) [] := by
        have h := ws0 ((wr.drewN nq).alloc (.cells #[.slice none 0 0] 27)) (wr.heap.size + 2)
        rwa [show ((wr.drewN nq).alloc (.cells #[.slice none 0 0] 27)).heap.size = wr.heap.size + 1 by simp] at h
      have hz : wr.heap.size + 2 ≤ (((wr.drewN nq).alloc (.cells #[.slice none 0 0] 27)).alloc (.cells #[.slice none 0 0] 27)).heap.size := by simp
      have hbw : Below w.heap.size w (((wr.drewN nq).alloc (.cells #[.slice none 0 0] 27)).alloc (.cells #[.slice none 0 0] 27)) := g_alloc (g_alloc (g_drewN HB.out nq) _) _
      have HS1 := hid hs1
      have HS2 := hid hs2
      have HZ := hid hz
      have HW := hid hbw
      have HT := hid HB.out.size
      clear hs1 hs2 hz hbw
      go_wp2_with fail
      refine (wnumber_any wr.heap.size (wr.heap.size + 2) (.slice none 0 0) [] 562949953421312 (by decide) _ HS1.out (by decide) HZ.out).mono ?_
      rintro e x1 ⟨rfl, v1, h1, hc1⟩
      rw [kw_l7] at h1
      have HS1 := hid h1
      have HS2 := hid (HS2.out.otherW hc1 (by omega) (fun h => by cases h) (fun k h => by cases h))
      have HZ := hid (Nat.le_trans HZ.out hc1.size)
      have HW := hid (WC.toBelow HW.out hc1 HT.out (fun k h => by cases h))
      clear h1 hc1
      go_wp2_with fail
      refine (wnumber_any (wr.heap.size + 1) (wr.heap.size + 2) (.slice none 0 0) [] 72057594037927935 (by decide) _ HS2.out (by decide) HZ.out).mono ?_
      rintro e x2 ⟨rfl, v2, h1, hc1⟩
      rw [kw_m7] at h1
      have HS1 := hid (HS1.out.otherW hc1 (by omega) (fun h => by cases h) (fun k h => ⟨by have := (World.ownsRow.lt HS1.out.own k h).1; omega, fun h => by cases h⟩))
      have HS2 := hid h1
      have HW := hid (WC.toBelow HW.out hc1 (Nat.le_trans HT.out (Nat.le_succ _)) (fun k h => by cases h))
      clear h1 hc1
      go_wp2_with fail
      refine (wbytes_any wr.heap.size (wr.heap.size + 2) v1 [128, 128, 128, 128, 128, 128, 128, 1] _ HS1.out (by decide)).mono ?_
      rintro e x3 ⟨B1, rfl, hB, _, hb3⟩
      have HY := hid hB
      have HS1 := hid (HS1.out.below hb3)
      have HS2 := hid (HS2.out.below hb3)
      have HW := hid (g_trans HW.out hb3)
      clear hB hb3
      simp only [List.length_cons, List.length_nil, Nat.reduceAdd]
      go_wp2_with fail
      refine (of_v B1 [128, 128, 128, 128, 128, 128, 128, 1] 8 rfl HY.out (by decide) (byt_none HY.out (by decide))).mono ?_
      rintro e x4 ⟨r1, C1, rfl, hR, hb4⟩
      have HR1 := hid hR
      have HS1 := hid (HS1.out.below hb4)
      have HS2 := hid (HS2.out.below hb4)
      have HL1 := hid hb4.size
      have HX3 := hid (show w.heap.size ≤ x3.heap.size from HW.out.size)
      have HW := hid (g_trans HW.out hb4)
      clear hR hb4 HY
      go_wp2_with fail
      refine (wbytes_any (wr.heap.size + 1) (wr.heap.size + 2) v2 [255, 255, 255, 255, 255, 255, 255, 127] _ HS2.out (by decide)).mono ?_
      rintro e x5 ⟨B2, rfl, hB, _, hb5⟩
      have HY := hid hB
      have HS1 := hid (HS1.out.below hb5)
      have HS2 := hid (HS2.out.below hb5)
      have HR1 := hid (HR1.out.below hb5)
      have HL2 := hid hb5.size
      have HW := hid (g_trans HW.out hb5)
      clear hB hb5
      simp only [List.length_cons, List.length_nil, Nat.reduceAdd]
      go_wp2_with fail
      refine (of_v B2 [255, 255, 255, 255, 255, 255, 255, 127] 8 rfl HY.out (by decide) (byt_none HY.out (by decide))).mono ?_
      rintro e x6 ⟨r2, C2, rfl, hR, hb6⟩
      have HR2 := hid hR
      have HS1 := hid (HS1.out.below hb6)
      have HS2 := hid (HS2.out.below hb6)
      have HR1 := hid (HR1.out.below hb6)
      have HW := hid (g_trans HW.out hb6)
      clear hR hb6 HY
      go_wp2_with fail
      refine (wlen_any wr.heap.size (wr.heap.size + 2) v1 [128, 128, 128, 128, 128, 128, 128, 1] _ HS1.out).mono ?_
      rintro e x7 ⟨rfl, rfl⟩
      simp only [List.length_cons, List.length_nil, Nat.reduceAdd]
      go_wp2_with fail
      refine (wlen_any (wr.heap.size + 1) (wr.heap.size + 2) v2 [255, 255, 255, 255, 255, 255, 255, 127] _ HS2.out).mono ?_
      rintro e x8 ⟨rfl, rfl⟩
      simp only [List.length_cons, List.length_nil, Nat.reduceAdd]
      clear HS1 HS2
      go_wp2_with fail
      refine (number_v HR1.out.1 kr_l7).mono ?_
      rintro e x9 ⟨rfl, hR, hg⟩
      have HR2 := hid (HR2.out.other hg (by have := HR1.out.2.2.1; have := HL2.out; omega))
      have HW := hid (gb_to_below HW.out hg (by have := HR1.out.2.1; have := HX3.out; omega))
      clear hR hg
      go_wp2_with fail
      refine (number_v HR2.out.1 kr_m7).mono ?_
      rintro e x10 ⟨rfl, hR, hg⟩
      have HW := hid (gb_to_below HW.out hg (by have := HR2.out.2.1; have := HX3.out; have := HL1.out; have := HL2.out; omega))
      clear hR hg
      go_wp2
      go_roundg (10 - (7 + 1))
      case measure => have := HK.out; omega
      case rel => exact ⟨7 + 1, rfl, by omega, by go_num, HW.out⟩
    · as_aux_lemma =>
      go_wp2
      go_quiet (fail)
      have hs1 : WS (((wr.drewN nq).alloc (.cells #[.slice none 0 0] 27)).alloc (.cells #[.slice none 0 0] 27)) wr.heap.size (wr.heap.size + 2) (.slice none 0 0) [] := (ws0 (wr.drewN nq) _).below (g_alloc g_refl _)
      have hs2 : WS (((wr.drewN nq).alloc (.cells #[.slice none 0 0] 27)).alloc (.cells #[.slice none 0 0] 27)) (wr.heap.size + 1) (wr.heap.size + 2) (.slice none 0 0) [] := by
        have h := ws0 ((wr.drewN nq).alloc (.cells #[.slice none 0 0] 27)) (wr.heap.size + 2)
        rwa [show ((wr.drewN nq).alloc (.cells #[.slice none 0 0] 27)).heap.size = wr.heap.size + 1 by simp] at h
      have hz : wr.heap.size + 2 ≤ (((wr.drewN nq).alloc (.cells #[.slice none 0 0] 27)).alloc (.cells #[.slice none 0 0] 27)).heap.size := by simp
      have hbw : Below w.heap.size w (((wr.drewN nq).alloc (.cells #[.slice none 0 0] 27)).alloc (.cells #[.slice none 0 0] 27)) := g_alloc (g_alloc (g_drewN HB.out nq) _) _
      have HS1 := hid hs1
      have HS2 := hid hs2
      have HZ := hid hz
      have HW := hid hbw
      have HT := hid HB.out.size
      clear hs1 hs2 hz hbw
      go_wp2_with fail
      refine (wnumber_any wr.heap.size (wr.heap.size + 2) (.slice none 0 0) [] 72057594037927936 (by decide) _ HS1.out (by decide) HZ.out).mono ?_
      rintro e x1 ⟨rfl, v1, h1, hc1⟩
      rw [kw_l8] at h1
      have HS1 := hid h1
      have HS2 := hid (HS2.out.otherW hc1 (by omega) (fun h => by cases h) (fun k h => by cases h))
      have HZ := hid (Nat.le_trans HZ.out hc1.size)
      have HW := hid (WC.toBelow HW.out hc1 HT.out (fun k h => by cases h))
      clear h1 hc1
      go_wp2_with fail
      refine (wnumber_any (wr.heap.size + 1) (wr.heap.size + 2) (.slice none 0 0) [] 9223372036854775807 (by decide) _ HS2.out (by decide) HZ.out).mono ?_
      rintro e x2 ⟨rfl, v2, h1, hc1⟩
      rw [kw_m8] at h1
      have HS1 := hid (HS1.out.otherW hc1 (by omega) (fun h => by cases h) (fun k h => ⟨by have := (World.ownsRow.lt HS1.out.own k h).1; omega, fun h => by cases h⟩))
      have HS2 := hid h1
      have HW := hid (WC.toBelow HW.out hc1 (Nat.le_trans HT.out (Nat.le_succ _)) (fun k h => by cases h))
      clear h1 hc1
      go_wp2_with fail
      refine (wbytes_any wr.heap.size (wr.heap.size + 2) v1 [128, 128, 128, 128, 128, 128, 128, 128, 1] _ HS1.out (by decide)).mono ?_
      rintro e x3 ⟨B1, rfl, hB, _, hb3⟩
      have HY := hid hB
      have HS1 := hid (HS1.out.below hb3)
      have HS2 := hid (HS2.out.below hb3)
      have HW := hid (g_trans HW.out hb3)
      clear hB hb3
      simp only [List.length_cons, List.length_nil, Nat.reduceAdd]
      go_wp2_with fail
      refine (of_v B1 [128, 128, 128, 128, 128, 128, 128, 128, 1] 9 rfl HY.out (by decide) (byt_none HY.out (by decide))).mono ?_
      rintro e x4 ⟨r1, C1, rfl, hR, hb4⟩
      have HR1 := hid hR
      have HS1 := hid (HS1.out.below hb4)
      have HS2 := hid (HS2.out.below hb4)
      have HL1 := hid hb4.size
      have HX3 := hid (show w.heap.size ≤ x3.heap.size from HW.out.size)
      have HW := hid (g_trans HW.out hb4)
      clear hR hb4 HY
      go_wp2_with fail
      refine (wbytes_any (wr.heap.size + 1) (wr.heap.size + 2) v2 [255, 255, 255, 255, 255, 255, 255, 255, 127] _ HS2.out (by decide)).mono ?_
      rintro e x5 ⟨B2, rfl, hB, _, hb5⟩
      have HY := hid hB
      have HS1 := hid (HS1.out.below hb5)
      have HS2 := hid (HS2.out.below hb5)
      have HR1 := hid (HR1.out.below hb5)
      have HL2 := hid hb5.size
      have HW := hid (g_trans HW.out hb5)
      clear hB hb5
      simp only [List.length_cons, List.length_nil, Nat.reduceAdd]
      go_wp2_with fail
      refine (of_v B2 [255, 255, 255, 255, 255, 255, 255, 255, 127] 9 rfl HY.out (by decide) (byt_none HY.out (by decide))).mono ?_
      rintro e x6 ⟨r2, C2, rfl, hR, hb6⟩
      have HR2 := hid hR
      have HS1 := hid (HS1.out.below hb6)
      have HS2 := hid (HS2.out.below hb6)
      have HR1 := hid (HR1.out.below hb6)
      have HW := hid (g_trans HW.out hb6)
      clear hR hb6 HY
      go_wp2_with fail
      refine (wlen_any wr.heap.size (wr.heap.size + 2) v1 [128, 128, 128, 128, 128, 128, 128, 128, 1] _ HS1.out).mono ?_
      rintro e x7 ⟨rfl, rfl⟩
      simp only [List.length_cons, List.length_nil, Nat.reduceAdd]
      go_wp2_with fail
      refine (wlen_any (wr.heap.size + 1) (wr.heap.size + 2) v2 [255, 255, 255, 255, 255, 255, 255, 255, 127] _ HS2.out).mono ?_
      rintro e x8 ⟨rfl, rfl⟩
      simp only [List.length_cons, List.length_nil, Nat.reduceAdd]
      clear HS1 HS2
      go_wp2_with fail
      refine (number_v HR1.out.1 kr_l8).mono ?_
      rintro e x9 ⟨rfl, hR, hg⟩
      have HR2 := hid (HR2.out.other hg (by have := HR1.out.2.2.1; have := HL2.out; omega))
      have HW := hid (gb_to_below HW.out hg (by have := HR1.out.2.1; have := HX3.out; omega))
      clear hR hg
      go_wp2_with fail
      refine (number_v HR2.out.1 kr_m8).mono ?_
      rintro e x10 ⟨rfl, hR, hg⟩
      have HW := hid (gb_to_below HW.out hg (by have := HR2.out.2.1; have := HX3.out; have := HL1.out; have := HL2.out; omega))
      clear hR hg
      go_wp2
      go_roundg (10 - (8 + 1))
      case measure => have := HK.out; omega
      case rel => exact ⟨8 + 1, rfl, by omega, by go_num, HW.out⟩
    · as_aux_lemma =>
      go_wp2
      go_quiet (fail)
      have hs1 : WS (((wr.drewN nq).alloc (.cells #[.slice none 0 0] 27)).alloc (.cells #[.slice none 0 0] 27)) wr.heap.size (wr.heap.size + 2) (.slice none 0 0) [] := (ws0 (wr.drewN nq) _).below (g_alloc g_refl _)
      have hs2 : WS (((wr.drewN nq).alloc (.cells #[.slice none 0 0] 27)).alloc (.cells #[.slice none 0 0] 27)) (wr.heap.size + 1) (wr.heap.size + 2) (.slice none 0 0) [] := by
        have h := ws0 ((wr.drewN nq).alloc (.cells #[.slice none 0 0] 27)) (wr.heap.size + 2)
        rwa [show ((wr.drewN nq).alloc (.cells #[.slice none 0 0] 27)).heap.size = wr.heap.size + 1 by simp] at h
      have hz : wr.heap.size + 2 ≤ (((wr.drewN nq).alloc (.cells #[.slice none 0 0] 27)).alloc (.cells #[.slice none 0 0] 27)).heap.size := by simp
      have hbw : Below w.heap.size w (((wr.drewN nq).alloc (.cells #[.slice none 0 0] 27)).alloc (.cells #[.slice none 0 0] 27)) := g_alloc (g_alloc (g_drewN HB.out nq) _) _
      have HS1 := hid hs1
      have HS2 := hid hs2
      have HZ := hid hz
      have HW := hid hbw
      have HT := hid HB.out.size
      clear hs1 hs2 hz hbw
      go_wp2_with fail
      refine (wnumber_any wr.heap.size (wr.heap.size + 2) (.slice none 0 0) [] 9223372036854775808 (by decide) _ HS1.out (by decide) HZ.out).mono ?_
      rintro e x1 ⟨rfl, v1, h1, hc1⟩
      rw [kw_l9] at h1
      have HS1 := hid h1
      have HS2 := hid (HS2.out.otherW hc1 (by omega) (fun h => by cases h) (fun k h => by cases h))
      have HZ := hid (Nat.le_trans HZ.out hc1.size)
      have HW := hid (WC.toBelow HW.out hc1 HT.out (fun k h => by cases h))
      clear h1 hc1
      go_wp2_with fail
      refine (wnumber_any (wr.heap.size + 1) (wr.heap.size + 2) (.slice none 0 0) [] 18446744073709551615 (by decide) _ HS2.out (by decide) HZ.out).mono ?_
      rintro e x2 ⟨rfl, v2, h1, hc1⟩
      rw [kw_m9] at h1
      have HS1 := hid (HS1.out.otherW hc1 (by omega) (fun h => by cases h) (fun k h => ⟨by have := (World.ownsRow.lt HS1.out.own k h).1; omega, fun h => by cases h⟩))
      have HS2 := hid h1
      have HW := hid (WC.toBelow HW.out hc1 (Nat.le_trans HT.out (Nat.le_succ _)) (fun k h => by cases h))
      clear h1 hc1
      go_wp2_with fail
      refine (wbytes_any wr.heap.size (wr.heap.size + 2) v1 [128, 128, 128, 128, 128, 128, 128, 128, 128, 1] _ HS1.out (by decide)).mono ?_
      rintro e x3 ⟨B1, rfl, hB, _, hb3⟩
      have HY := hid hB
      have HS1 := hid (HS1.out.below hb3)
      have HS2 := hid (HS2.out.below hb3)
      have HW := hid (g_trans HW.out hb3)
      clear hB hb3
      simp only [List.length_cons, List.length_nil, Nat.reduceAdd]
      go_wp2_with fail
      refine (of_v B1 [128, 128, 128, 128, 128, 128, 128, 128, 128, 1] 10 rfl HY.out (by decide) (byt_none HY.out (by decide))).mono ?_
      rintro e x4 ⟨r1, C1, rfl, hR, hb4⟩
      have HR1 := hid hR
      have HS1 := hid (HS1.out.below hb4)
      have HS2 := hid (HS2.out.below hb4)
      have HL1 := hid hb4.size
      have HX3 := hid (show w.heap.size ≤ x3.heap.size from HW.out.size)
      have HW := hid (g_trans HW.out hb4)
      clear hR hb4 HY
      go_wp2_with fail
      refine (wbytes_any (wr.heap.size + 1) (wr.heap.size + 2) v2 [255, 255, 255, 255, 255, 255, 255, 255, 255, 1] _ HS2.out (by decide)).mono ?_
      rintro e x5 ⟨B2, rfl, hB, _, hb5⟩
      have HY := hid hB
      have HS1 := hid (HS1.out.below hb5)
      have HS2 := hid (HS2.out.below hb5)
      have HR1 := hid (HR1.out.below hb5)
      have HL2 := hid hb5.size
      have HW := hid (g_trans HW.out hb5)
      clear hB hb5
      simp only [List.length_cons, List.length_nil, Nat.reduceAdd]
      go_wp2_with fail
      refine (of_v B2 [255, 255, 255, 255, 255, 255, 255, 255, 255, 1] 10 rfl HY.out (by decide) (byt_none HY.out (by decide))).mono ?_
      rintro e x6 ⟨r2, C2, rfl, hR, hb6⟩
      have HR2 := hid hR
      have HS1 := hid (HS1.out.below hb6)
      have HS2 := hid (HS2.out.below hb6)
      have HR1 := hid (HR1.out.below hb6)
      have HW := hid (g_trans HW.out hb6)
      clear hR hb6 HY
      go_wp2_with fail
      refine (wlen_any wr.heap.size (wr.heap.size + 2) v1 [128, 128, 128, 128, 128, 128, 128, 128, 128, 1] _ HS1.out).mono ?_
      rintro e x7 ⟨rfl, rfl⟩
      simp only [List.length_cons, List.length_nil, Nat.reduceAdd]
      go_wp2_with fail
      refine (wlen_any (wr.heap.size + 1) (wr.heap.size + 2) v2 [255, 255, 255, 255, 255, 255, 255, 255, 255, 1] _ HS2.out).mono ?_
      rintro e x8 ⟨rfl, rfl⟩
      simp only [List.length_cons, List.length_nil, Nat.reduceAdd]
      clear HS1 HS2
      go_wp2_with fail
      refine (number_v HR1.out.1 kr_l9).mono ?_
      rintro e x9 ⟨rfl, hR, hg⟩
      have HR2 := hid (HR2.out.other hg (by have := HR1.out.2.2.1; have := HL2.out; omega))
      have HW := hid (gb_to_below HW.out hg (by have := HR1.out.2.1; have := HX3.out; omega))
      clear hR hg
      go_wp2_with fail
      refine (number_v HR2.out.1 kr_m9).mono ?_
      rintro e x10 ⟨rfl, hR, hg⟩
      have HW := hid (gb_to_below HW.out hg (by have := HR2.out.2.1; have := HX3.out; have := HL1.out; have := HL2.out; omega))
      clear hR hg
      go_wp2
      go_roundg (10 - (9 + 1))
      case measure => have := HK.out; omega
      case rel => exact ⟨9 + 1, rfl, by omega, by go_num, HW.out⟩
    · go_wp2
      have hTB : TB (wr.alloc (.cells #[.int .u8 255, .int .u8 255, .int .u8 255, .int .u8 255, .int .u8 255, .int .u8 255, .int .u8 255, .int .u8 255, .int .u8 255, .int .u8 2] 5)) wr.heap.size := ⟨by simp, fun i hi => by
        rcases (show i = 0 ∨ i = 1 ∨ i = 2 ∨ i = 3 ∨ i = 4 ∨ i = 5 ∨ i = 6 ∨ i = 7 ∨ i = 8 by omega) with rfl | rfl | rfl | rfl | rfl | rfl | rfl | rfl | rfl <;> go_simp, ⟨2, by go_simp⟩, by go_simp⟩
      have HT := hid (And.intro hTB HB.out.size)
      have HW := hid (g_alloc HB.out (.cells #[.int .u8 255, .int .u8 255, .int .u8 255, .int .u8 255, .int .u8 255, .int .u8 255, .int .u8 255, .int .u8 255, .int .u8 255, .int .u8 2] 5))
      clear hTB
      generalize wr.heap.size = T at *
      go_loopg [9] 3 (fun n z wx => ∃ j : Nat, n = 3 - j ∧ j ≤ 3 ∧ z = .int .i64 j ∧ Below w.heap.size w wx ∧ TB wx T)
      case atStart => exact ⟨0, rfl, by omega, rfl, HW.out, HT.out.1⟩
      case round =>
        obtain ⟨j, hj, hj3, rfl, hb, ht⟩ := hrel
        have HJ := hid hj
        have HX := hid (And.intro hb ht)
        obtain ⟨ht1, ht2, ⟨v9, ht3⟩, ht4⟩ := ht
        clear hj hb ht2
        rcases (show j = 0 ∨ j = 1 ∨ j = 2 ∨ j = 3 by omega) with rfl | rfl | rfl | rfl <;> clear hj3
        · as_aux_lemma =>
          go_wp2_with fail
          refine (of_any (some ⟨T, 0, none⟩) 10 [255, 255, 255, 255, 255, 255, 255, 255, 255, 2] _ ((HX.out.2.byo 2 2 rfl).below (g_alloc g_refl _)) (by decide) (fun h => by cases h) (by decide)).mono ?_
          rintro e x1 ⟨r, B, rfl, hR, hr, _, hb1⟩
          have HB1 := hid (g_trans (g_alloc (g_set HX.out.1 (p := ⟨T, 9, none⟩) HT.out.2 (.int .u8 2)) _) hb1)
          have hA := TB.keep (w' := (wr.setCell ⟨T, 9, none⟩ (.int .u8 2)).alloc (.cells #[.int .u8 2, .int .u8 0, .int .u8 129] 5)) (HX.out.2.set 2) (by simp) (Below.heap_alloc _ _ _ (HX.out.2.set 2).1)
          have HTB := hid (hA.keep hb1.size (hb1.block T hA.1))
          have HR := hid (And.intro hR (show T < r from Nat.lt_of_lt_of_le hA.1 hr))
          clear hR hr hb1 ht1 ht3 ht4 hA
          go_wp2_with fail
          refine (number_v HR.out.1 kt_0).mono ?_
          rintro e x2 ⟨rfl, hR, hg⟩
          have HB2 := hid (gb_to_below HB1.out hg (by have := HR.out.2; have := HT.out.2; omega))
          have HTB := hid (HTB.out.keep hg.size (hg.block T HTB.out.1 (fun e => by have := HR.out.2; injection e with e; omega)))
          have HR := hid hR
          clear hR hg HB1
          go_wp2_with fail
          refine (fault_v HR.out 9 5 rfl rfl).mono ?_
          rintro e x3 ⟨rfl, hb3⟩
          have HB3 := hid (g_trans HB2.out hb3)
          have HTB := hid (HTB.out.keep hb3.size (hb3.block T HTB.out.1))
          clear hb3
          go_wp2
          go_roundg (3 - (0 + 1))
          case measure => have := HJ.out; omega
          case rel => exact ⟨0 + 1, rfl, by omega, by go_num, HB3.out, HTB.out⟩
        · as_aux_lemma =>
          go_wp2_with fail
          refine (of_any (some ⟨T, 0, none⟩) 10 [255, 255, 255, 255, 255, 255, 255, 255, 255, 0] _ ((HX.out.2.byo 0 0 rfl).below (g_alloc g_refl _)) (by decide) (fun h => by cases h) (by decide)).mono ?_
          rintro e x1 ⟨r, B, rfl, hR, hr, _, hb1⟩
          have HB1 := hid (g_trans (g_alloc (g_set HX.out.1 (p := ⟨T, 9, none⟩) HT.out.2 (.int .u8 0)) _) hb1)
          have hA := TB.keep (w' := (wr.setCell ⟨T, 9, none⟩ (.int .u8 0)).alloc (.cells #[.int .u8 2, .int .u8 0, .int .u8 129] 5)) (HX.out.2.set 0) (by simp) (Below.heap_alloc _ _ _ (HX.out.2.set 0).1)
          have HTB := hid (hA.keep hb1.size (hb1.block T hA.1))
          have HR := hid (And.intro hR (show T < r from Nat.lt_of_lt_of_le hA.1 hr))
          clear hR hr hb1 ht1 ht3 ht4 hA
          go_wp2_with fail
          refine (number_v HR.out.1 kt_1).mono ?_
          rintro e x2 ⟨rfl, hR, hg⟩
          have HB2 := hid (gb_to_below HB1.out hg (by have := HR.out.2; have := HT.out.2; omega))
          have HTB := hid (HTB.out.keep hg.size (hg.block T HTB.out.1 (fun e => by have := HR.out.2; injection e with e; omega)))
          have HR := hid hR
          clear hR hg HB1
          go_wp2_with fail
          refine (fault_v HR.out 9 5 rfl rfl).mono ?_
          rintro e x3 ⟨rfl, hb3⟩
          have HB3 := hid (g_trans HB2.out hb3)
          have HTB := hid (HTB.out.keep hb3.size (hb3.block T HTB.out.1))
          clear hb3
          go_wp2
          go_roundg (3 - (1 + 1))
          case measure => have := HJ.out; omega
          case rel => exact ⟨1 + 1, rfl, by omega, by go_num, HB3.out, HTB.out⟩
        · as_aux_lemma =>
          go_wp2_with fail
          refine (of_any (some ⟨T, 0, none⟩) 10 [255, 255, 255, 255, 255, 255, 255, 255, 255, 129] _ ((HX.out.2.byo 129 129 rfl).below (g_alloc g_refl _)) (by decide) (fun h => by cases h) (by decide)).mono ?_
          rintro e x1 ⟨r, B, rfl, hR, hr, _, hb1⟩
          have HB1 := hid (g_trans (g_alloc (g_set HX.out.1 (p := ⟨T, 9, none⟩) HT.out.2 (.int .u8 129)) _) hb1)
          have hA := TB.keep (w' := (wr.setCell ⟨T, 9, none⟩ (.int .u8 129)).alloc (.cells #[.int .u8 2, .int .u8 0, .int .u8 129] 5)) (HX.out.2.set 129) (by simp) (Below.heap_alloc _ _ _ (HX.out.2.set 129).1)
          have HTB := hid (hA.keep hb1.size (hb1.block T hA.1))
          have HR := hid (And.intro hR (show T < r from Nat.lt_of_lt_of_le hA.1 hr))
          clear hR hr hb1 ht1 ht3 ht4 hA
          go_wp2_with fail
          refine (number_v HR.out.1 kt_2).mono ?_
          rintro e x2 ⟨rfl, hR, hg⟩
          have HB2 := hid (gb_to_below HB1.out hg (by have := HR.out.2; have := HT.out.2; omega))
          have HTB := hid (HTB.out.keep hg.size (hg.block T HTB.out.1 (fun e => by have := HR.out.2; injection e with e; omega)))
          have HR := hid hR
          clear hR hg HB1
          go_wp2_with fail
          refine (fault_v HR.out 9 5 rfl rfl).mono ?_
          rintro e x3 ⟨rfl, hb3⟩
          have HB3 := hid (g_trans HB2.out hb3)
          have HTB := hid (HTB.out.keep hb3.size (hb3.block T HTB.out.1))
          clear hb3
          go_wp2
          go_roundg (3 - (2 + 1))
          case measure => have := HJ.out; omega
          case rel => exact ⟨2 + 1, rfl, by omega, by go_num, HB3.out, HTB.out⟩
        · clear ht1 ht3 ht4
          go_wp2_with fail
          refine (wtext_any wr.heap.size wr.heap.size (.slice none 0 0) [] ⟨#[48, 49, 50, 51, 52, 53, 54, 55, 56, 57, 97, 98, 99, 100, 101, 102, 103]⟩ (by decide) _ (ws0 wr _) (by decide) (by simp)).mono ?_
          rintro e x1 ⟨rfl, v1, h1, hc1⟩
          rw [kt_w] at h1
          have HS := hid h1
          have HW := hid (WC.toBelow (g_alloc HX.out.1 _) hc1 HX.out.1.size (fun k h => by cases h))
          have HZ := hid (Nat.le_trans HX.out.1.size (Nat.le_trans (by simp) hc1.size) : w.heap.size ≤ x1.heap.size)
          clear h1 hc1
          go_wp2_with fail
          refine (wbytes_any _ wr.heap.size v1 [17, 48, 49, 50, 51, 52, 53, 54, 55, 56, 57, 97, 98, 99, 100, 101, 102, 103] _ HS.out (by decide)).mono ?_
          rintro e x2 ⟨B0, rfl, hB, _, hb⟩
          have HY := hid hB
          have HS := hid (HS.out.below hb)
          have HW := hid (g_trans HW.out hb)
          have HQ0 := hid hb.size
          clear hB hb
          simp only [List.length_cons, List.length_nil, Nat.reduceAdd]
          go_wp2_with fail
          refine (of_v B0 [17, 48, 49, 50, 51, 52, 53, 54, 55, 56, 57, 97, 98, 99, 100, 101, 102, 103] 18 rfl HY.out (by decide) (byt_none HY.out (by decide))).mono ?_
          rintro e x3 ⟨r0, C0, rfl, hR, hb⟩
          have HR0 := hid hR
          have HS := hid (HS.out.below hb)
          have HW := hid (g_trans HW.out hb)
          have HP0 := hid hb.size
          clear hR hb HY
          go_wp2_with fail
          refine (wbytes_any _ wr.heap.size v1 [17, 48, 49, 50, 51, 52, 53, 54, 55, 56, 57, 97, 98, 99, 100, 101, 102, 103] _ HS.out (by decide)).mono ?_
          rintro e x4 ⟨B1, rfl, hB, _, hb⟩
          have HY := hid hB
          have HS := hid (HS.out.below hb)
          have HW := hid (g_trans HW.out hb)
          have HQ1 := hid hb.size
          have HR0 := hid (HR0.out.below hb)
          clear hB hb
          simp only [List.length_cons, List.length_nil, Nat.reduceAdd]
          go_wp2_with fail
          refine (of_v B1 [17, 48, 49, 50, 51, 52, 53, 54, 55, 56, 57, 97, 98, 99, 100, 101, 102, 103] 18 rfl HY.out (by decide) (byt_none HY.out (by decide))).mono ?_
          rintro e x5 ⟨r1, C1, rfl, hR, hb⟩
          have HR1 := hid hR
          have HS := hid (HS.out.below hb)
          have HW := hid (g_trans HW.out hb)
          have HP1 := hid hb.size
          have HR0 := hid (HR0.out.below hb)
          clear hR hb HY
          go_wp2_with fail
          refine (wbytes_any _ wr.heap.size v1 [17, 48, 49, 50, 51, 52, 53, 54, 55, 56, 57, 97, 98, 99, 100, 101, 102, 103] _ HS.out (by decide)).mono ?_
          rintro e x6 ⟨B2, rfl, hB, _, hb⟩
          have HY := hid hB
          have HS := hid (HS.out.below hb)
          have HW := hid (g_trans HW.out hb)
          have HQ2 := hid hb.size
          have HR0 := hid (HR0.out.below hb)
          have HR1 := hid (HR1.out.below hb)
          clear hB hb
          simp only [List.length_cons, List.length_nil, Nat.reduceAdd]
          go_wp2_with fail
          refine (of_v B2 [17, 48, 49, 50, 51, 52, 53, 54, 55, 56, 57, 97, 98, 99, 100, 101, 102, 103] 18 rfl HY.out (by decide) (byt_none HY.out (by decide))).mono ?_
          rintro e x7 ⟨r2, C2, rfl, hR, hb⟩
          have HR2 := hid hR
          have HS := hid (HS.out.below hb)
          have HW := hid (g_trans HW.out hb)
          have HP2 := hid hb.size
          have HR0 := hid (HR0.out.below hb)
          have HR1 := hid (HR1.out.below hb)
          clear hR hb HY
          clear HS
          go_wp2_with fail
          refine (object_v _ _ HR1.out.1 kt_o).mono ?_
          rintro e x8 ⟨rfl, hR, hg⟩
          have HN := hid (And.intro HR1.out.2.1 HR1.out.2.2.1)
          have HR0 := hid (HR0.out.other hg (by have := HQ0.out; have := HP0.out; have := HQ1.out; have := HP1.out; have := HQ2.out; have := HP2.out; have := HZ.out; have := HN.out; omega))
          have HR2 := hid (HR2.out.other hg (by have := HQ0.out; have := HP0.out; have := HQ1.out; have := HP1.out; have := HQ2.out; have := HP2.out; have := HZ.out; have := HN.out; omega))
          have HR1 := hid (HR1.out.next hR)
          have HW := hid (gb_to_below HW.out hg (by have := HQ0.out; have := HP0.out; have := HQ1.out; have := HP1.out; have := HQ2.out; have := HP2.out; have := HZ.out; have := HN.out; omega))
          have HG := hid hg.size
          clear hR hg
          have hbo : Below x8.heap.size x8 (x8.alloc (.cells #[.string ⟨#[]⟩, .string ⟨#[]⟩] 63)) := g_alloc g_refl _
          have HR0 := hid (HR0.out.below hbo)
          have HR1 := hid (HR1.out.below hbo)
          have HR2 := hid (HR2.out.below hbo)
          have HW := hid (g_trans HW.out hbo)
          clear hbo
          go_wp2_with fail
          refine (fault_v HR1.out.1 0 3 rfl rfl).mono ?_
          rintro e x9 ⟨rfl, hb⟩
          have ho0 : x9.cell? ⟨x8.heap.size, 0, none⟩ = some (.string ⟨#[]⟩) := (hb.cell (p := ⟨x8.heap.size, 0, none⟩) (by simp)).trans (by go_simp)
          have ho1 : x9.cell? ⟨x8.heap.size, 1, none⟩ = some (.string ⟨#[]⟩) := (hb.cell (p := ⟨x8.heap.size, 1, none⟩) (by simp)).trans (by go_simp)
          have HO := hid (show x8.heap.size < x9.heap.size from World.block_lt_of_cell? _ _ ho0)
          have HR0 := hid (HR0.out.below hb)
          have HR2 := hid (HR2.out.below hb)
          have HW := hid (g_trans HW.out hb)
          have HO8 := hid (show r0 ≠ x8.heap.size ∧ r2 ≠ x8.heap.size from ⟨by have := HQ0.out; have := HP0.out; have := HQ1.out; have := HP1.out; have := HQ2.out; have := HP2.out; have := HZ.out; have := HN.out; have := HR0.out.2.2.1; have := HG.out; omega, by have := HQ0.out; have := HP0.out; have := HQ1.out; have := HP1.out; have := HQ2.out; have := HP2.out; have := HZ.out; have := HN.out; have := HR2.out.2.2.1; have := HG.out; omega⟩)
          clear hb
          go_wp2_with fail
          refine (text_v 17 _ HR0.out.1 (by decide) kt_a).mono ?_
          rintro e x10 ⟨rfl, hR, hg⟩
          have hp0 : x10.cell? ⟨x8.heap.size, 0, none⟩ = some (.string ⟨#[]⟩) := hg.cell ho0 (fun e => HO8.out.1 (by injection e with e; exact e.symm))
          have hp1 : x10.cell? ⟨x8.heap.size, 1, none⟩ = some (.string ⟨#[]⟩) := hg.cell ho1 (fun e => HO8.out.1 (by injection e with e; exact e.symm))
          have HR2 := hid (HR2.out.other hg (by have := HQ0.out; have := HP0.out; have := HQ1.out; have := HP1.out; have := HQ2.out; have := HP2.out; have := HZ.out; have := HN.out; have := HR0.out.2.1; have := HR0.out.2.2.1; omega))
          have HW := hid (gb_to_below HW.out hg (by have := HQ0.out; have := HP0.out; have := HQ1.out; have := HP1.out; have := HQ2.out; have := HP2.out; have := HZ.out; have := HN.out; have := HR0.out.2.1; omega))
          clear hR hg ho0 ho1
          go_wp2_with fail
          refine (text_v (-5) _ HR2.out.1 (by decide) kt_c).mono ?_
          rintro e x11 ⟨rfl, hR, hg⟩
          have HR2' := hid hR
          have HW := hid (gb_to_below HW.out hg (by have := HQ0.out; have := HP0.out; have := HQ1.out; have := HP1.out; have := HQ2.out; have := HP2.out; have := HZ.out; have := HN.out; have := HR2.out.2.1; omega))
          clear hR hg hp0 hp1
          go_wp2_with fail
          refine (failed_v HR2'.out true rfl).mono ?_
          rintro e x12 ⟨rfl, rfl⟩
          go_wp2_with fail
          refine (lives_any _).mono ?_
          rintro e x13 ⟨rfl, hb⟩
          have HW := hid (g_trans HW.out hb)
          clear hb
          go_wp2
          go_ret
          exact ⟨rfl, HW.out⟩
end Go.Proofs.Ytohnhjmiblgkkaa
