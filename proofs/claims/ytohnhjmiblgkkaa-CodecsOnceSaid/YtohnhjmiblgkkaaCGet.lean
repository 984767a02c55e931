/-
  THE CONTRACT of get of layer 4's law.
-/
import Derived.Test.YtohnhjmiblgkkaaCGnil
import Derived.Test.YtohnhjmiblgkkaaCMst
import Derived.Test.YtohnhjmiblgkkaaCQry
import Derived.Test.YtohnhjmiblgkkaaCPut
namespace Go.Proofs.Ytohnhjmiblgkkaa
open Go.RowKit
attribute [local go_sem] vObj vGoal vTup vChg vQry

theorem int_any (r : Nat) (A : Option Addr) (L : List UInt8) (s : St) (w : World) (h : RS w r A L s) :
    Calls Try.prog 45 #[.pointer (some ⟨r, 0, none⟩)] w (RPost w r A L (.int .i64 (wrap64 ((rnum L s).1 : Int))) (rnum L s).2) := by
  have H := hid h
  clear h
  go_enter Try.func45, Try.ntmps45
  go_wp2_with fail
  refine (number_any r A L s w H.out).mono ?_
  rintro x w1 ⟨rfl, h1, h2⟩
  have H1 := hid h1
  have H2 := hid h2
  clear h1 h2
  go_wp2
  go_ret
  exact ⟨rfl, H1.out, H2.out⟩
theorem ZG.grown {x y : World} {q r : Nat} (h : ZG x q) (hg : x.grownBy y (some r)) (h0 : q ≠ r) (h1 : q + 1 ≠ r) (h2 : q + 1 + 1 ≠ r) : ZG y q := by
  obtain ⟨c0_0, f0_0, c0_1, f0_1, c0_2, f0_2, c0_3, f0_3, c0_4, f0_4, c0_5, f0_5, c0_6, f0_6, c0_7, f0_7, c1_0, f1_0, c1_1, f1_1, c1_2, f1_2, c1_3, f1_3, c1_4, f1_4, c1_5, f1_5, c2_0, f2_0, c2_1, f2_1, c2_2, f2_2, c2_3, f2_3, c2_4, f2_4, c2_5, f2_5, c2_6, f2_6, c2_7, f2_7, hs⟩ := h
  have p0 : ∀ i, y.cell? ⟨q, i, none⟩ = x.cell? ⟨q, i, none⟩ ∧ y.frozen? ⟨q, i, none⟩ = x.frozen? ⟨q, i, none⟩ := fun i => ⟨hg.cell_far ⟨q, i, none⟩ (by show q < _; omega) (fun e => h0 (by injection e)), hg.frozen_far ⟨q, i, none⟩ (by show q < _; omega) (fun e => h0 (by injection e))⟩
  have p1 : ∀ i, y.cell? ⟨q + 1, i, none⟩ = x.cell? ⟨q + 1, i, none⟩ ∧ y.frozen? ⟨q + 1, i, none⟩ = x.frozen? ⟨q + 1, i, none⟩ := fun i => ⟨hg.cell_far ⟨q + 1, i, none⟩ (by show q + 1 < _; omega) (fun e => h1 (by injection e)), hg.frozen_far ⟨q + 1, i, none⟩ (by show q + 1 < _; omega) (fun e => h1 (by injection e))⟩
  have p2 : ∀ i, y.cell? ⟨q + 1 + 1, i, none⟩ = x.cell? ⟨q + 1 + 1, i, none⟩ ∧ y.frozen? ⟨q + 1 + 1, i, none⟩ = x.frozen? ⟨q + 1 + 1, i, none⟩ := fun i => ⟨hg.cell_far ⟨q + 1 + 1, i, none⟩ hs (fun e => h2 (by injection e)), hg.frozen_far ⟨q + 1 + 1, i, none⟩ hs (fun e => h2 (by injection e))⟩
  exact ⟨(p0 _).1.trans c0_0, (p0 _).2.trans f0_0, (p0 _).1.trans c0_1, (p0 _).2.trans f0_1, (p0 _).1.trans c0_2, (p0 _).2.trans f0_2, (p0 _).1.trans c0_3, (p0 _).2.trans f0_3, (p0 _).1.trans c0_4, (p0 _).2.trans f0_4, (p0 _).1.trans c0_5, (p0 _).2.trans f0_5, (p0 _).1.trans c0_6, (p0 _).2.trans f0_6, (p0 _).1.trans c0_7, (p0 _).2.trans f0_7, (p1 _).1.trans c1_0, (p1 _).2.trans f1_0, (p1 _).1.trans c1_1, (p1 _).2.trans f1_1, (p1 _).1.trans c1_2, (p1 _).2.trans f1_2, (p1 _).1.trans c1_3, (p1 _).2.trans f1_3, (p1 _).1.trans c1_4, (p1 _).2.trans f1_4, (p1 _).1.trans c1_5, (p1 _).2.trans f1_5, (p2 _).1.trans c2_0, (p2 _).2.trans f2_0, (p2 _).1.trans c2_1, (p2 _).2.trans f2_1, (p2 _).1.trans c2_2, (p2 _).2.trans f2_2, (p2 _).1.trans c2_3, (p2 _).2.trans f2_3, (p2 _).1.trans c2_4, (p2 _).2.trans f2_4, (p2 _).1.trans c2_5, (p2 _).2.trans f2_5, (p2 _).1.trans c2_6, (p2 _).2.trans f2_6, (p2 _).1.trans c2_7, (p2 _).2.trans f2_7, Nat.lt_of_lt_of_le hs hg.size⟩
theorem hi_set {B : Nat} {a b : World} {p o : Nat} {v : Value} (h : Below B a b) (hp : B ≤ p) : Below B a (b.setCell ⟨p, o, none⟩ v) := h.setCell hp v
theorem hi_alloc {B : Nat} {a b : World} {o : Obj} (h : Below B a b) (hB : B ≤ a.heap.size) : Below B a (b.alloc o) := h.alloc (Nat.le_trans hB h.size) o
theorem fin_hi {w w0 wa wf : World} {r : Nat} {A : Option Addr} {L : List UInt8} {s0 t : St} (h : RS w r A L s0) (h0 : Below w.heap.size w w0) (ha : w0.grownBy wa (some r)) (hR : RS wa r A L t) (hf : Below w.heap.size wa wf) : RS wf r A L t ∧ w.grownBy wf (some r) := by
  have hg := (gb_below h0).trans ha
  refine ⟨hR.keep hf.size fun k hk hc => hf.block k ?_, ⟨hf.os.trans hg.os, hf.tape.trans hg.tape, hf.output.trans hg.output, Nat.le_trans hg.size hf.size, fun k hk hne => (hf.block k hk).trans (hg.block k hk hne)⟩⟩
  rcases hc with rfl | ⟨hn, a, ha, rfl⟩
  · exact h.lt
  · exact h.dlt hn a ha
theorem wrap_all {α : Type} {P : α → Prop} {z : α} {f : St → α × St} {s : St} (hz : P z) (hf : P (f s).1) : P (wrap z f s).1 := by
  unfold wrap
  split
  · exact hz
  · split
    · exact hz
    · exact hf
theorem rqry_le (L : List UInt8) (s : St) : (rqry L s).1.1.1 ≤ 255 := wrap_all (α := (Nat × ((ByteArray × ByteArray) × ByteArray)) × (ByteArray × ByteArray)) (P := fun x => x.1.1 ≤ 255) (by decide) (upTo_le L 255 5 (by decide) s)
def vV (x : Nat × (((ByteArray × ByteArray) × ByteArray) × ((ByteArray × ByteArray) × ByteArray))) : Value := .agg #[.int .u8 0, .int .u64 (x.1 : Int), .string x.2.1.1.1, .string x.2.1.1.2, .string x.2.1.2, .string x.2.2.1.1, .string x.2.2.1.2, .string x.2.2.2]

set_option maxRecDepth 20000 in
set_option maxHeartbeats 1000000 in
theorem get_0 (r : Nat) (A : Option Addr) (L : List UInt8) (s : St) (kd : Nat) (hk : kd % 13 = 0) (l : Int) (hl : -9223372036854775808 ≤ l ∧ l ≤ 9223372036854775807) (w : World) (h : RS w r A L s) : Calls Try.prog 15 #[.pointer (some ⟨r, 0, none⟩), .int .u8 (kd : Int), .int .i64 l] w (RPost w r A L (vV ((rnum L s).1, (((⟨#[]⟩, ⟨#[]⟩), ⟨#[]⟩), ((⟨#[]⟩, ⟨#[]⟩), ⟨#[]⟩)))) (rnum L s).2) := by
  have HL := hid hl
  have H := hid h
  have hk2 : (kd : Int) % 13 = 0 := by omega
  have HZ := hid (zg0 w)
  have HB := hid (show Below w.heap.size w (((w.alloc (.cells #[.int .u8 0, .int .u64 0, .string ⟨#[]⟩, .string ⟨#[]⟩, .string ⟨#[]⟩, .string ⟨#[]⟩, .string ⟨#[]⟩, .string ⟨#[]⟩] 31)).alloc (.cells #[.string ⟨#[]⟩, .string ⟨#[]⟩, .string ⟨#[]⟩, .string ⟨#[]⟩, .string ⟨#[]⟩, .string ⟨#[]⟩] 75)).alloc (.cells #[.int .u8 0, .int .u64 0, .string ⟨#[]⟩, .string ⟨#[]⟩, .string ⟨#[]⟩, .string ⟨#[]⟩, .string ⟨#[]⟩, .string ⟨#[]⟩] 31)) from g_alloc (g_alloc (g_alloc g_refl _) _) _)
  have hlt := h.lt
  clear hl h hk
  go_enter Try.func15, Try.ntmps15
  go_wp2_with fail
  refine (number_any r A L s _ (H.out.below HB.out)).mono ?_
  rintro e w1 ⟨rfl, hR, hg⟩
  obtain ⟨c0_0, f0_0, c0_1, f0_1, c0_2, f0_2, c0_3, f0_3, c0_4, f0_4, c0_5, f0_5, c0_6, f0_6, c0_7, f0_7, c1_0, f1_0, c1_1, f1_1, c1_2, f1_2, c1_3, f1_3, c1_4, f1_4, c1_5, f1_5, c2_0, f2_0, c2_1, f2_1, c2_2, f2_2, c2_3, f2_3, c2_4, f2_4, c2_5, f2_5, c2_6, f2_6, c2_7, f2_7, hs⟩ := HZ.out.grown hg (by omega) (by omega) (by omega)
  have HG := hid hg
  have HR := hid hR
  have hs1 : w.heap.size + 1 < w1.heap.size := by omega
  have hs0 : w.heap.size < w1.heap.size := by omega
  clear hg hR hlt
  generalize hq : w.heap.size = q at *
  have HQ := hid hq
  clear hq
  go_wp2
  refine bodyPost_ret (v := .agg #[.int .u8 0, .int .u64 (((rnum L s).1 : Int)), .string (⟨#[]⟩), .string (⟨#[]⟩), .string (⟨#[]⟩), .string (⟨#[]⟩), .string (⟨#[]⟩), .string (⟨#[]⟩)]) ?_ rfl ?_
  · simp [results, Try.results15, go_sem, *]
  · have hq := HQ.out
    subst hq
    exact ⟨rfl, fin_hi H.out HB.out HG.out HR.out (by repeat (first | with_reducible exact Below.refl _ _ | with_reducible refine hi_alloc ?_ (by omega) | with_reducible refine hi_set ?_ (by omega)))⟩

set_option maxRecDepth 20000 in
set_option maxHeartbeats 1000000 in
theorem get_1 (r : Nat) (A : Option Addr) (L : List UInt8) (s : St) (kd : Nat) (hk : kd % 13 = 1) (l : Int) (hl : -9223372036854775808 ≤ l ∧ l ≤ 9223372036854775807) (w : World) (h : RS w r A L s) : Calls Try.prog 15 #[.pointer (some ⟨r, 0, none⟩), .int .u8 (kd : Int), .int .i64 l] w (RPost w r A L (vV ((rnum L s).1, (((⟨#[]⟩, ⟨#[]⟩), ⟨#[]⟩), ((⟨#[]⟩, ⟨#[]⟩), ⟨#[]⟩)))) (rnum L s).2) := by
  have HL := hid hl
  have H := hid h
  have hk2 : (kd : Int) % 13 = 1 := by omega
  have HZ := hid (zg0 w)
  have HB := hid (show Below w.heap.size w (((w.alloc (.cells #[.int .u8 0, .int .u64 0, .string ⟨#[]⟩, .string ⟨#[]⟩, .string ⟨#[]⟩, .string ⟨#[]⟩, .string ⟨#[]⟩, .string ⟨#[]⟩] 31)).alloc (.cells #[.string ⟨#[]⟩, .string ⟨#[]⟩, .string ⟨#[]⟩, .string ⟨#[]⟩, .string ⟨#[]⟩, .string ⟨#[]⟩] 75)).alloc (.cells #[.int .u8 0, .int .u64 0, .string ⟨#[]⟩, .string ⟨#[]⟩, .string ⟨#[]⟩, .string ⟨#[]⟩, .string ⟨#[]⟩, .string ⟨#[]⟩] 31)) from g_alloc (g_alloc (g_alloc g_refl _) _) _)
  have hlt := h.lt
  clear hl h hk
  go_enter Try.func15, Try.ntmps15
  go_wp2_with fail
  refine (int_any r A L s _ (H.out.below HB.out)).mono ?_
  rintro e w1 ⟨rfl, hR, hg⟩
  obtain ⟨c0_0, f0_0, c0_1, f0_1, c0_2, f0_2, c0_3, f0_3, c0_4, f0_4, c0_5, f0_5, c0_6, f0_6, c0_7, f0_7, c1_0, f1_0, c1_1, f1_1, c1_2, f1_2, c1_3, f1_3, c1_4, f1_4, c1_5, f1_5, c2_0, f2_0, c2_1, f2_1, c2_2, f2_2, c2_3, f2_3, c2_4, f2_4, c2_5, f2_5, c2_6, f2_6, c2_7, f2_7, hs⟩ := HZ.out.grown hg (by omega) (by omega) (by omega)
  have HG := hid hg
  have HR := hid hR
  have hs1 : w.heap.size + 1 < w1.heap.size := by omega
  have hs0 : w.heap.size < w1.heap.size := by omega
  clear hg hR hlt
  have hwb := wrap_back (rnum_lt L s)
  generalize wrap64 ((rnum L s).1 : Int) = z at *
  generalize hq : w.heap.size = q at *
  have HQ := hid hq
  clear hq
  go_wp2
  refine bodyPost_ret (v := .agg #[.int .u8 0, .int .u64 (((rnum L s).1 : Int)), .string (⟨#[]⟩), .string (⟨#[]⟩), .string (⟨#[]⟩), .string (⟨#[]⟩), .string (⟨#[]⟩), .string (⟨#[]⟩)]) ?_ rfl ?_
  · simp [results, Try.results15, go_sem, *]
  · have hq := HQ.out
    subst hq
    exact ⟨rfl, fin_hi H.out HB.out HG.out HR.out (by repeat (first | with_reducible exact Below.refl _ _ | with_reducible refine hi_alloc ?_ (by omega) | with_reducible refine hi_set ?_ (by omega)))⟩

set_option maxRecDepth 20000 in
set_option maxHeartbeats 1000000 in
theorem get_2 (r : Nat) (A : Option Addr) (L : List UInt8) (s : St) (kd : Nat) (hk : kd % 13 = 2) (l : Int) (hl : -9223372036854775808 ≤ l ∧ l ≤ 9223372036854775807) (w : World) (h : RS w r A L s) : Calls Try.prog 15 #[.pointer (some ⟨r, 0, none⟩), .int .u8 (kd : Int), .int .i64 l] w (RPost w r A L (vV ((upTo L 255 5 s).1, (((⟨#[]⟩, ⟨#[]⟩), ⟨#[]⟩), ((⟨#[]⟩, ⟨#[]⟩), ⟨#[]⟩)))) (upTo L 255 5 s).2) := by
  have HL := hid hl
  have H := hid h
  have hk2 : (kd : Int) % 13 = 2 := by omega
  have HZ := hid (zg0 w)
  have HB := hid (show Below w.heap.size w (((w.alloc (.cells #[.int .u8 0, .int .u64 0, .string ⟨#[]⟩, .string ⟨#[]⟩, .string ⟨#[]⟩, .string ⟨#[]⟩, .string ⟨#[]⟩, .string ⟨#[]⟩] 31)).alloc (.cells #[.string ⟨#[]⟩, .string ⟨#[]⟩, .string ⟨#[]⟩, .string ⟨#[]⟩, .string ⟨#[]⟩, .string ⟨#[]⟩] 75)).alloc (.cells #[.int .u8 0, .int .u64 0, .string ⟨#[]⟩, .string ⟨#[]⟩, .string ⟨#[]⟩, .string ⟨#[]⟩, .string ⟨#[]⟩, .string ⟨#[]⟩] 31)) from g_alloc (g_alloc (g_alloc g_refl _) _) _)
  have hlt := h.lt
  clear hl h hk
  go_enter Try.func15, Try.ntmps15
  go_wp2_with fail
  refine (small_any r A L s _ (H.out.below HB.out)).mono ?_
  rintro e w1 ⟨rfl, hR, hg⟩
  obtain ⟨c0_0, f0_0, c0_1, f0_1, c0_2, f0_2, c0_3, f0_3, c0_4, f0_4, c0_5, f0_5, c0_6, f0_6, c0_7, f0_7, c1_0, f1_0, c1_1, f1_1, c1_2, f1_2, c1_3, f1_3, c1_4, f1_4, c1_5, f1_5, c2_0, f2_0, c2_1, f2_1, c2_2, f2_2, c2_3, f2_3, c2_4, f2_4, c2_5, f2_5, c2_6, f2_6, c2_7, f2_7, hs⟩ := HZ.out.grown hg (by omega) (by omega) (by omega)
  have HG := hid hg
  have HR := hid hR
  have hs1 : w.heap.size + 1 < w1.heap.size := by omega
  have hs0 : w.heap.size < w1.heap.size := by omega
  clear hg hR hlt
  have hwq : IntKind.u64.wrap ((upTo L 255 5 s).1 : Int) = ((upTo L 255 5 s).1 : Int) := wrap_u64 (by have := upTo_le L 255 5 (by decide) s; omega)
  generalize hq : w.heap.size = q at *
  have HQ := hid hq
  clear hq
  go_wp2
  refine bodyPost_ret (v := .agg #[.int .u8 0, .int .u64 (((upTo L 255 5 s).1 : Int)), .string (⟨#[]⟩), .string (⟨#[]⟩), .string (⟨#[]⟩), .string (⟨#[]⟩), .string (⟨#[]⟩), .string (⟨#[]⟩)]) ?_ rfl ?_
  · simp [results, Try.results15, go_sem, *]
  · have hq := HQ.out
    subst hq
    exact ⟨rfl, fin_hi H.out HB.out HG.out HR.out (by repeat (first | with_reducible exact Below.refl _ _ | with_reducible refine hi_alloc ?_ (by omega) | with_reducible refine hi_set ?_ (by omega)))⟩

set_option maxRecDepth 20000 in
set_option maxHeartbeats 1000000 in
theorem get_3 (r : Nat) (A : Option Addr) (L : List UInt8) (s : St) (kd : Nat) (hk : kd % 13 = 3) (l : Int) (hl : -9223372036854775808 ≤ l ∧ l ≤ 9223372036854775807) (w : World) (h : RS w r A L s) : Calls Try.prog 15 #[.pointer (some ⟨r, 0, none⟩), .int .u8 (kd : Int), .int .i64 l] w (RPost w r A L (vV (bit ((upTo L 1 5 s).1 == 1), (((⟨#[]⟩, ⟨#[]⟩), ⟨#[]⟩), ((⟨#[]⟩, ⟨#[]⟩), ⟨#[]⟩)))) (upTo L 1 5 s).2) := by
  have HL := hid hl
  have H := hid h
  have hk2 : (kd : Int) % 13 = 3 := by omega
  have HZ := hid (zg0 w)
  have HB := hid (show Below w.heap.size w (((w.alloc (.cells #[.int .u8 0, .int .u64 0, .string ⟨#[]⟩, .string ⟨#[]⟩, .string ⟨#[]⟩, .string ⟨#[]⟩, .string ⟨#[]⟩, .string ⟨#[]⟩] 31)).alloc (.cells #[.string ⟨#[]⟩, .string ⟨#[]⟩, .string ⟨#[]⟩, .string ⟨#[]⟩, .string ⟨#[]⟩, .string ⟨#[]⟩] 75)).alloc (.cells #[.int .u8 0, .int .u64 0, .string ⟨#[]⟩, .string ⟨#[]⟩, .string ⟨#[]⟩, .string ⟨#[]⟩, .string ⟨#[]⟩, .string ⟨#[]⟩] 31)) from g_alloc (g_alloc (g_alloc g_refl _) _) _)
  have hlt := h.lt
  clear hl h hk
  go_enter Try.func15, Try.ntmps15
  go_wp2_with fail
  refine (bool_any r A L s _ (H.out.below HB.out)).mono ?_
  rintro e w1 ⟨rfl, hR, hg⟩
  obtain ⟨c0_0, f0_0, c0_1, f0_1, c0_2, f0_2, c0_3, f0_3, c0_4, f0_4, c0_5, f0_5, c0_6, f0_6, c0_7, f0_7, c1_0, f1_0, c1_1, f1_1, c1_2, f1_2, c1_3, f1_3, c1_4, f1_4, c1_5, f1_5, c2_0, f2_0, c2_1, f2_1, c2_2, f2_2, c2_3, f2_3, c2_4, f2_4, c2_5, f2_5, c2_6, f2_6, c2_7, f2_7, hs⟩ := HZ.out.grown hg (by omega) (by omega) (by omega)
  have HG := hid hg
  have HR := hid hR
  have hs1 : w.heap.size + 1 < w1.heap.size := by omega
  have hs0 : w.heap.size < w1.heap.size := by omega
  clear hg hR hlt
  rcases hb : ((upTo L 1 5 s).1 == 1) with _ | _
  · have HBB := hid hb
    clear hb
    generalize hq : w.heap.size = q at *
    have HQ := hid hq
    clear hq
    go_wp2
    refine bodyPost_ret (v := .agg #[.int .u8 0, .int .u64 (0), .string (⟨#[]⟩), .string (⟨#[]⟩), .string (⟨#[]⟩), .string (⟨#[]⟩), .string (⟨#[]⟩), .string (⟨#[]⟩)]) ?_ rfl ?_
    · simp [results, Try.results15, go_sem, *]
    · have hq := HQ.out
      subst hq
      exact ⟨by rw [HBB.out]; rfl, fin_hi H.out HB.out HG.out HR.out (by repeat (first | with_reducible exact Below.refl _ _ | with_reducible refine hi_alloc ?_ (by omega) | with_reducible refine hi_set ?_ (by omega)))⟩
  · have HBB := hid hb
    clear hb
    generalize hq : w.heap.size = q at *
    have HQ := hid hq
    clear hq
    go_wp2
    refine bodyPost_ret (v := .agg #[.int .u8 0, .int .u64 (1), .string (⟨#[]⟩), .string (⟨#[]⟩), .string (⟨#[]⟩), .string (⟨#[]⟩), .string (⟨#[]⟩), .string (⟨#[]⟩)]) ?_ rfl ?_
    · simp [results, Try.results15, go_sem, *]
    · have hq := HQ.out
      subst hq
      exact ⟨by rw [HBB.out]; rfl, fin_hi H.out HB.out HG.out HR.out (by repeat (first | with_reducible exact Below.refl _ _ | with_reducible refine hi_alloc ?_ (by omega) | with_reducible refine hi_set ?_ (by omega)))⟩

set_option maxRecDepth 20000 in
set_option maxHeartbeats 1000000 in
theorem get_4 (r : Nat) (A : Option Addr) (L : List UInt8) (s : St) (kd : Nat) (hk : kd % 13 = 4) (l : Int) (hl : -9223372036854775808 ≤ l ∧ l ≤ 9223372036854775807) (w : World) (h : RS w r A L s) : Calls Try.prog 15 #[.pointer (some ⟨r, 0, none⟩), .int .u8 (kd : Int), .int .i64 l] w (RPost w r A L (vV (0, ((((rtext L (lmt l) s).1, ⟨#[]⟩), ⟨#[]⟩), ((⟨#[]⟩, ⟨#[]⟩), ⟨#[]⟩)))) (rtext L (lmt l) s).2) := by
  have HL := hid hl
  have H := hid h
  have hk2 : (kd : Int) % 13 = 4 := by omega
  have HZ := hid (zg0 w)
  have HB := hid (show Below w.heap.size w (((w.alloc (.cells #[.int .u8 0, .int .u64 0, .string ⟨#[]⟩, .string ⟨#[]⟩, .string ⟨#[]⟩, .string ⟨#[]⟩, .string ⟨#[]⟩, .string ⟨#[]⟩] 31)).alloc (.cells #[.string ⟨#[]⟩, .string ⟨#[]⟩, .string ⟨#[]⟩, .string ⟨#[]⟩, .string ⟨#[]⟩, .string ⟨#[]⟩] 75)).alloc (.cells #[.int .u8 0, .int .u64 0, .string ⟨#[]⟩, .string ⟨#[]⟩, .string ⟨#[]⟩, .string ⟨#[]⟩, .string ⟨#[]⟩, .string ⟨#[]⟩] 31)) from g_alloc (g_alloc (g_alloc g_refl _) _) _)
  have hlt := h.lt
  clear hl h hk
  go_enter Try.func15, Try.ntmps15
  go_wp2_with fail
  refine (text_any r A L l HL.out s _ (H.out.below HB.out)).mono ?_
  rintro e w1 ⟨rfl, hR, hg⟩
  obtain ⟨c0_0, f0_0, c0_1, f0_1, c0_2, f0_2, c0_3, f0_3, c0_4, f0_4, c0_5, f0_5, c0_6, f0_6, c0_7, f0_7, c1_0, f1_0, c1_1, f1_1, c1_2, f1_2, c1_3, f1_3, c1_4, f1_4, c1_5, f1_5, c2_0, f2_0, c2_1, f2_1, c2_2, f2_2, c2_3, f2_3, c2_4, f2_4, c2_5, f2_5, c2_6, f2_6, c2_7, f2_7, hs⟩ := HZ.out.grown hg (by omega) (by omega) (by omega)
  have HG := hid hg
  have HR := hid hR
  have hs1 : w.heap.size + 1 < w1.heap.size := by omega
  have hs0 : w.heap.size < w1.heap.size := by omega
  clear hg hR hlt
  generalize hq : w.heap.size = q at *
  have HQ := hid hq
  clear hq
  go_wp2
  refine bodyPost_ret (v := .agg #[.int .u8 0, .int .u64 (0), .string ((rtext L (lmt l) s).1), .string (⟨#[]⟩), .string (⟨#[]⟩), .string (⟨#[]⟩), .string (⟨#[]⟩), .string (⟨#[]⟩)]) ?_ rfl ?_
  · simp [results, Try.results15, go_sem, *]
  · have hq := HQ.out
    subst hq
    exact ⟨rfl, fin_hi H.out HB.out HG.out HR.out (by repeat (first | with_reducible exact Below.refl _ _ | with_reducible refine hi_alloc ?_ (by omega) | with_reducible refine hi_set ?_ (by omega)))⟩

set_option maxRecDepth 20000 in
set_option maxHeartbeats 1000000 in
theorem get_5 (r : Nat) (A : Option Addr) (L : List UInt8) (s : St) (kd : Nat) (hk : kd % 13 = 5) (l : Int) (hl : -9223372036854775808 ≤ l ∧ l ≤ 9223372036854775807) (w : World) (h : RS w r A L s) : Calls Try.prog 15 #[.pointer (some ⟨r, 0, none⟩), .int .u8 (kd : Int), .int .i64 l] w (RPost w r A L (vV (0, (((robj L s).1, ⟨#[]⟩), ((⟨#[]⟩, ⟨#[]⟩), ⟨#[]⟩)))) (robj L s).2) := by
  have HL := hid hl
  have H := hid h
  have hk2 : (kd : Int) % 13 = 5 := by omega
  have HZ := hid (zg0 w)
  have HB := hid (show Below w.heap.size w (((w.alloc (.cells #[.int .u8 0, .int .u64 0, .string ⟨#[]⟩, .string ⟨#[]⟩, .string ⟨#[]⟩, .string ⟨#[]⟩, .string ⟨#[]⟩, .string ⟨#[]⟩] 31)).alloc (.cells #[.string ⟨#[]⟩, .string ⟨#[]⟩, .string ⟨#[]⟩, .string ⟨#[]⟩, .string ⟨#[]⟩, .string ⟨#[]⟩] 75)).alloc (.cells #[.int .u8 0, .int .u64 0, .string ⟨#[]⟩, .string ⟨#[]⟩, .string ⟨#[]⟩, .string ⟨#[]⟩, .string ⟨#[]⟩, .string ⟨#[]⟩] 31)) from g_alloc (g_alloc (g_alloc g_refl _) _) _)
  have hlt := h.lt
  clear hl h hk
  go_enter Try.func15, Try.ntmps15
  go_wp2_with fail
  refine (object_any r A L s _ (H.out.below HB.out)).mono ?_
  rintro e w1 ⟨rfl, hR, hg⟩
  obtain ⟨c0_0, f0_0, c0_1, f0_1, c0_2, f0_2, c0_3, f0_3, c0_4, f0_4, c0_5, f0_5, c0_6, f0_6, c0_7, f0_7, c1_0, f1_0, c1_1, f1_1, c1_2, f1_2, c1_3, f1_3, c1_4, f1_4, c1_5, f1_5, c2_0, f2_0, c2_1, f2_1, c2_2, f2_2, c2_3, f2_3, c2_4, f2_4, c2_5, f2_5, c2_6, f2_6, c2_7, f2_7, hs⟩ := HZ.out.grown hg (by omega) (by omega) (by omega)
  have HG := hid hg
  have HR := hid hR
  have hs1 : w.heap.size + 1 < w1.heap.size := by omega
  have hs0 : w.heap.size < w1.heap.size := by omega
  clear hg hR hlt
  generalize hq : w.heap.size = q at *
  have HQ := hid hq
  clear hq
  go_wp2
  refine bodyPost_ret (v := .agg #[.int .u8 0, .int .u64 (0), .string ((robj L s).1.1), .string ((robj L s).1.2), .string (⟨#[]⟩), .string (⟨#[]⟩), .string (⟨#[]⟩), .string (⟨#[]⟩)]) ?_ rfl ?_
  · simp [results, Try.results15, go_sem, *]
  · have hq := HQ.out
    subst hq
    exact ⟨rfl, fin_hi H.out HB.out HG.out HR.out (by repeat (first | with_reducible exact Below.refl _ _ | with_reducible refine hi_alloc ?_ (by omega) | with_reducible refine hi_set ?_ (by omega)))⟩

set_option maxRecDepth 20000 in
set_option maxHeartbeats 1000000 in
theorem get_6 (r : Nat) (A : Option Addr) (L : List UInt8) (s : St) (kd : Nat) (hk : kd % 13 = 6) (l : Int) (hl : -9223372036854775808 ≤ l ∧ l ≤ 9223372036854775807) (w : World) (h : RS w r A L s) : Calls Try.prog 15 #[.pointer (some ⟨r, 0, none⟩), .int .u8 (kd : Int), .int .i64 l] w (RPost w r A L (vV (0, ((rgoal L s).1, ((⟨#[]⟩, ⟨#[]⟩), ⟨#[]⟩)))) (rgoal L s).2) := by
  have HL := hid hl
  have H := hid h
  have hk2 : (kd : Int) % 13 = 6 := by omega
  have HZ := hid (zg0 w)
  have HB := hid (show Below w.heap.size w (((w.alloc (.cells #[.int .u8 0, .int .u64 0, .string ⟨#[]⟩, .string ⟨#[]⟩, .string ⟨#[]⟩, .string ⟨#[]⟩, .string ⟨#[]⟩, .string ⟨#[]⟩] 31)).alloc (.cells #[.string ⟨#[]⟩, .string ⟨#[]⟩, .string ⟨#[]⟩, .string ⟨#[]⟩, .string ⟨#[]⟩, .string ⟨#[]⟩] 75)).alloc (.cells #[.int .u8 0, .int .u64 0, .string ⟨#[]⟩, .string ⟨#[]⟩, .string ⟨#[]⟩, .string ⟨#[]⟩, .string ⟨#[]⟩, .string ⟨#[]⟩] 31)) from g_alloc (g_alloc (g_alloc g_refl _) _) _)
  have hlt := h.lt
  clear hl h hk
  go_enter Try.func15, Try.ntmps15
  go_wp2_with fail
  refine (goal_any r A L s _ (H.out.below HB.out)).mono ?_
  rintro e w1 ⟨rfl, hR, hg⟩
  obtain ⟨c0_0, f0_0, c0_1, f0_1, c0_2, f0_2, c0_3, f0_3, c0_4, f0_4, c0_5, f0_5, c0_6, f0_6, c0_7, f0_7, c1_0, f1_0, c1_1, f1_1, c1_2, f1_2, c1_3, f1_3, c1_4, f1_4, c1_5, f1_5, c2_0, f2_0, c2_1, f2_1, c2_2, f2_2, c2_3, f2_3, c2_4, f2_4, c2_5, f2_5, c2_6, f2_6, c2_7, f2_7, hs⟩ := HZ.out.grown hg (by omega) (by omega) (by omega)
  have HG := hid hg
  have HR := hid hR
  have hs1 : w.heap.size + 1 < w1.heap.size := by omega
  have hs0 : w.heap.size < w1.heap.size := by omega
  clear hg hR hlt
  generalize hq : w.heap.size = q at *
  have HQ := hid hq
  clear hq
  go_wp2
  refine bodyPost_ret (v := .agg #[.int .u8 0, .int .u64 (0), .string ((rgoal L s).1.1.1), .string ((rgoal L s).1.1.2), .string ((rgoal L s).1.2), .string (⟨#[]⟩), .string (⟨#[]⟩), .string (⟨#[]⟩)]) ?_ rfl ?_
  · simp [results, Try.results15, go_sem, *]
  · have hq := HQ.out
    subst hq
    exact ⟨rfl, fin_hi H.out HB.out HG.out HR.out (by repeat (first | with_reducible exact Below.refl _ _ | with_reducible refine hi_alloc ?_ (by omega) | with_reducible refine hi_set ?_ (by omega)))⟩

set_option maxRecDepth 20000 in
set_option maxHeartbeats 1000000 in
theorem get_7 (r : Nat) (A : Option Addr) (L : List UInt8) (s : St) (kd : Nat) (hk : kd % 13 = 7) (l : Int) (hl : -9223372036854775808 ≤ l ∧ l ≤ 9223372036854775807) (w : World) (h : RS w r A L s) : Calls Try.prog 15 #[.pointer (some ⟨r, 0, none⟩), .int .u8 (kd : Int), .int .i64 l] w (RPost w r A L (vV (0, (((⟨#[]⟩, ⟨#[]⟩), ⟨#[]⟩), (rgoal L s).1))) (rgoal L s).2) := by
  have HL := hid hl
  have H := hid h
  have hk2 : (kd : Int) % 13 = 7 := by omega
  have HZ := hid (zg0 w)
  have HB := hid (show Below w.heap.size w (((w.alloc (.cells #[.int .u8 0, .int .u64 0, .string ⟨#[]⟩, .string ⟨#[]⟩, .string ⟨#[]⟩, .string ⟨#[]⟩, .string ⟨#[]⟩, .string ⟨#[]⟩] 31)).alloc (.cells #[.string ⟨#[]⟩, .string ⟨#[]⟩, .string ⟨#[]⟩, .string ⟨#[]⟩, .string ⟨#[]⟩, .string ⟨#[]⟩] 75)).alloc (.cells #[.int .u8 0, .int .u64 0, .string ⟨#[]⟩, .string ⟨#[]⟩, .string ⟨#[]⟩, .string ⟨#[]⟩, .string ⟨#[]⟩, .string ⟨#[]⟩] 31)) from g_alloc (g_alloc (g_alloc g_refl _) _) _)
  have hlt := h.lt
  clear hl h hk
  go_enter Try.func15, Try.ntmps15
  go_wp2_with fail
  refine (subject_any r A L s _ (H.out.below HB.out)).mono ?_
  rintro e w1 ⟨rfl, hR, hg⟩
  obtain ⟨c0_0, f0_0, c0_1, f0_1, c0_2, f0_2, c0_3, f0_3, c0_4, f0_4, c0_5, f0_5, c0_6, f0_6, c0_7, f0_7, c1_0, f1_0, c1_1, f1_1, c1_2, f1_2, c1_3, f1_3, c1_4, f1_4, c1_5, f1_5, c2_0, f2_0, c2_1, f2_1, c2_2, f2_2, c2_3, f2_3, c2_4, f2_4, c2_5, f2_5, c2_6, f2_6, c2_7, f2_7, hs⟩ := HZ.out.grown hg (by omega) (by omega) (by omega)
  have HG := hid hg
  have HR := hid hR
  have hs1 : w.heap.size + 1 < w1.heap.size := by omega
  have hs0 : w.heap.size < w1.heap.size := by omega
  clear hg hR hlt
  generalize hq : w.heap.size = q at *
  have HQ := hid hq
  clear hq
  go_wp2
  refine bodyPost_ret (v := .agg #[.int .u8 0, .int .u64 (0), .string (⟨#[]⟩), .string (⟨#[]⟩), .string (⟨#[]⟩), .string ((rgoal L s).1.1.1), .string ((rgoal L s).1.1.2), .string ((rgoal L s).1.2)]) ?_ rfl ?_
  · simp [results, Try.results15, go_sem, *]
  · have hq := HQ.out
    subst hq
    exact ⟨rfl, fin_hi H.out HB.out HG.out HR.out (by repeat (first | with_reducible exact Below.refl _ _ | with_reducible refine hi_alloc ?_ (by omega) | with_reducible refine hi_set ?_ (by omega)))⟩

set_option maxRecDepth 20000 in
set_option maxHeartbeats 1000000 in
theorem get_8 (r : Nat) (A : Option Addr) (L : List UInt8) (s : St) (kd : Nat) (hk : kd % 13 = 8) (l : Int) (hl : -9223372036854775808 ≤ l ∧ l ≤ 9223372036854775807) (w : World) (h : RS w r A L s) : Calls Try.prog 15 #[.pointer (some ⟨r, 0, none⟩), .int .u8 (kd : Int), .int .i64 l] w (RPost w r A L (vV (0, (rtup L s).1)) (rtup L s).2) := by
  have HL := hid hl
  have H := hid h
  have hk2 : (kd : Int) % 13 = 8 := by omega
  have HZ := hid (zg0 w)
  have HB := hid (show Below w.heap.size w (((w.alloc (.cells #[.int .u8 0, .int .u64 0, .string ⟨#[]⟩, .string ⟨#[]⟩, .string ⟨#[]⟩, .string ⟨#[]⟩, .string ⟨#[]⟩, .string ⟨#[]⟩] 31)).alloc (.cells #[.string ⟨#[]⟩, .string ⟨#[]⟩, .string ⟨#[]⟩, .string ⟨#[]⟩, .string ⟨#[]⟩, .string ⟨#[]⟩] 75)).alloc (.cells #[.int .u8 0, .int .u64 0, .string ⟨#[]⟩, .string ⟨#[]⟩, .string ⟨#[]⟩, .string ⟨#[]⟩, .string ⟨#[]⟩, .string ⟨#[]⟩] 31)) from g_alloc (g_alloc (g_alloc g_refl _) _) _)
  have hlt := h.lt
  clear hl h hk
  go_enter Try.func15, Try.ntmps15
  go_wp2_with fail
  refine (tuple_any r A L s _ (H.out.below HB.out)).mono ?_
  rintro e w1 ⟨rfl, hR, hg⟩
  obtain ⟨c0_0, f0_0, c0_1, f0_1, c0_2, f0_2, c0_3, f0_3, c0_4, f0_4, c0_5, f0_5, c0_6, f0_6, c0_7, f0_7, c1_0, f1_0, c1_1, f1_1, c1_2, f1_2, c1_3, f1_3, c1_4, f1_4, c1_5, f1_5, c2_0, f2_0, c2_1, f2_1, c2_2, f2_2, c2_3, f2_3, c2_4, f2_4, c2_5, f2_5, c2_6, f2_6, c2_7, f2_7, hs⟩ := HZ.out.grown hg (by omega) (by omega) (by omega)
  have HG := hid hg
  have HR := hid hR
  have hs1 : w.heap.size + 1 < w1.heap.size := by omega
  have hs0 : w.heap.size < w1.heap.size := by omega
  clear hg hR hlt
  generalize hq : w.heap.size = q at *
  have HQ := hid hq
  clear hq
  go_wp2
  refine bodyPost_ret (v := .agg #[.int .u8 0, .int .u64 (0), .string ((rtup L s).1.1.1.1), .string ((rtup L s).1.1.1.2), .string ((rtup L s).1.1.2), .string ((rtup L s).1.2.1.1), .string ((rtup L s).1.2.1.2), .string ((rtup L s).1.2.2)]) ?_ rfl ?_
  · simp [results, Try.results15, go_sem, *]
  · have hq := HQ.out
    subst hq
    exact ⟨rfl, fin_hi H.out HB.out HG.out HR.out (by repeat (first | with_reducible exact Below.refl _ _ | with_reducible refine hi_alloc ?_ (by omega) | with_reducible refine hi_set ?_ (by omega)))⟩

set_option maxRecDepth 20000 in
set_option maxHeartbeats 1000000 in
theorem get_9 (r : Nat) (A : Option Addr) (L : List UInt8) (s : St) (kd : Nat) (hk : kd % 13 = 9) (l : Int) (hl : -9223372036854775808 ≤ l ∧ l ≤ 9223372036854775807) (w : World) (h : RS w r A L s) : Calls Try.prog 15 #[.pointer (some ⟨r, 0, none⟩), .int .u8 (kd : Int), .int .i64 l] w (RPost w r A L (vV (bit (rchg L s).1.2, (rchg L s).1.1)) (rchg L s).2) := by
  have HL := hid hl
  have H := hid h
  have hk2 : (kd : Int) % 13 = 9 := by omega
  have HZ := hid (zg0 w)
  have HB := hid (show Below w.heap.size w (((w.alloc (.cells #[.int .u8 0, .int .u64 0, .string ⟨#[]⟩, .string ⟨#[]⟩, .string ⟨#[]⟩, .string ⟨#[]⟩, .string ⟨#[]⟩, .string ⟨#[]⟩] 31)).alloc (.cells #[.string ⟨#[]⟩, .string ⟨#[]⟩, .string ⟨#[]⟩, .string ⟨#[]⟩, .string ⟨#[]⟩, .string ⟨#[]⟩] 75)).alloc (.cells #[.int .u8 0, .int .u64 0, .string ⟨#[]⟩, .string ⟨#[]⟩, .string ⟨#[]⟩, .string ⟨#[]⟩, .string ⟨#[]⟩, .string ⟨#[]⟩] 31)) from g_alloc (g_alloc (g_alloc g_refl _) _) _)
  have hlt := h.lt
  clear hl h hk
  go_enter Try.func15, Try.ntmps15
  go_wp2_with fail
  refine (change_any r A L s _ (H.out.below HB.out)).mono ?_
  rintro e w1 ⟨rfl, hR, hg⟩
  obtain ⟨c0_0, f0_0, c0_1, f0_1, c0_2, f0_2, c0_3, f0_3, c0_4, f0_4, c0_5, f0_5, c0_6, f0_6, c0_7, f0_7, c1_0, f1_0, c1_1, f1_1, c1_2, f1_2, c1_3, f1_3, c1_4, f1_4, c1_5, f1_5, c2_0, f2_0, c2_1, f2_1, c2_2, f2_2, c2_3, f2_3, c2_4, f2_4, c2_5, f2_5, c2_6, f2_6, c2_7, f2_7, hs⟩ := HZ.out.grown hg (by omega) (by omega) (by omega)
  have HG := hid hg
  have HR := hid hR
  have hs1 : w.heap.size + 1 < w1.heap.size := by omega
  have hs0 : w.heap.size < w1.heap.size := by omega
  clear hg hR hlt
  simp only [vChg]
  rcases hb : (rchg L s).1.2 with _ | _
  · have HBB := hid hb
    clear hb
    generalize hq : w.heap.size = q at *
    have HQ := hid hq
    clear hq
    go_wp2
    refine bodyPost_ret (v := .agg #[.int .u8 0, .int .u64 (0), .string ((rchg L s).1.1.1.1.1), .string ((rchg L s).1.1.1.1.2), .string ((rchg L s).1.1.1.2), .string ((rchg L s).1.1.2.1.1), .string ((rchg L s).1.1.2.1.2), .string ((rchg L s).1.1.2.2)]) ?_ rfl ?_
    · simp [results, Try.results15, go_sem, *]
    · have hq := HQ.out
      subst hq
      exact ⟨by rw [HBB.out]; rfl, fin_hi H.out HB.out HG.out HR.out (by repeat (first | with_reducible exact Below.refl _ _ | with_reducible refine hi_alloc ?_ (by omega) | with_reducible refine hi_set ?_ (by omega)))⟩
  · have HBB := hid hb
    clear hb
    generalize hq : w.heap.size = q at *
    have HQ := hid hq
    clear hq
    go_wp2
    refine bodyPost_ret (v := .agg #[.int .u8 0, .int .u64 (1), .string ((rchg L s).1.1.1.1.1), .string ((rchg L s).1.1.1.1.2), .string ((rchg L s).1.1.1.2), .string ((rchg L s).1.1.2.1.1), .string ((rchg L s).1.1.2.1.2), .string ((rchg L s).1.1.2.2)]) ?_ rfl ?_
    · simp [results, Try.results15, go_sem, *]
    · have hq := HQ.out
      subst hq
      exact ⟨by rw [HBB.out]; rfl, fin_hi H.out HB.out HG.out HR.out (by repeat (first | with_reducible exact Below.refl _ _ | with_reducible refine hi_alloc ?_ (by omega) | with_reducible refine hi_set ?_ (by omega)))⟩

set_option maxRecDepth 20000 in
set_option maxHeartbeats 1000000 in
theorem get_10 (r : Nat) (A : Option Addr) (L : List UInt8) (s : St) (kd : Nat) (hk : kd % 13 = 10) (l : Int) (hl : -9223372036854775808 ≤ l ∧ l ≤ 9223372036854775807) (w : World) (h : RS w r A L s) : Calls Try.prog 15 #[.pointer (some ⟨r, 0, none⟩), .int .u8 (kd : Int), .int .i64 l] w (RPost w r A L (vV (bit (rchg L s).1.2, (rchg L s).1.1)) (rchg L s).2) := by
  have HL := hid hl
  have H := hid h
  have hk2 : (kd : Int) % 13 = 10 := by omega
  have HZ := hid (zg0 w)
  have HB := hid (show Below w.heap.size w (((w.alloc (.cells #[.int .u8 0, .int .u64 0, .string ⟨#[]⟩, .string ⟨#[]⟩, .string ⟨#[]⟩, .string ⟨#[]⟩, .string ⟨#[]⟩, .string ⟨#[]⟩] 31)).alloc (.cells #[.string ⟨#[]⟩, .string ⟨#[]⟩, .string ⟨#[]⟩, .string ⟨#[]⟩, .string ⟨#[]⟩, .string ⟨#[]⟩] 75)).alloc (.cells #[.int .u8 0, .int .u64 0, .string ⟨#[]⟩, .string ⟨#[]⟩, .string ⟨#[]⟩, .string ⟨#[]⟩, .string ⟨#[]⟩, .string ⟨#[]⟩] 31)) from g_alloc (g_alloc (g_alloc g_refl _) _) _)
  have hlt := h.lt
  clear hl h hk
  go_enter Try.func15, Try.ntmps15
  go_wp2_with fail
  refine (must_any r A L s _ (H.out.below HB.out)).mono ?_
  rintro e w1 ⟨rfl, hR, hg⟩
  obtain ⟨c0_0, f0_0, c0_1, f0_1, c0_2, f0_2, c0_3, f0_3, c0_4, f0_4, c0_5, f0_5, c0_6, f0_6, c0_7, f0_7, c1_0, f1_0, c1_1, f1_1, c1_2, f1_2, c1_3, f1_3, c1_4, f1_4, c1_5, f1_5, c2_0, f2_0, c2_1, f2_1, c2_2, f2_2, c2_3, f2_3, c2_4, f2_4, c2_5, f2_5, c2_6, f2_6, c2_7, f2_7, hs⟩ := HZ.out.grown hg (by omega) (by omega) (by omega)
  have HG := hid hg
  have HR := hid hR
  have hs1 : w.heap.size + 1 < w1.heap.size := by omega
  have hs0 : w.heap.size < w1.heap.size := by omega
  clear hg hR hlt
  simp only [vChg]
  rcases hb : (rchg L s).1.2 with _ | _
  · have HBB := hid hb
    clear hb
    generalize hq : w.heap.size = q at *
    have HQ := hid hq
    clear hq
    go_wp2
    refine bodyPost_ret (v := .agg #[.int .u8 0, .int .u64 (0), .string ((rchg L s).1.1.1.1.1), .string ((rchg L s).1.1.1.1.2), .string ((rchg L s).1.1.1.2), .string ((rchg L s).1.1.2.1.1), .string ((rchg L s).1.1.2.1.2), .string ((rchg L s).1.1.2.2)]) ?_ rfl ?_
    · simp [results, Try.results15, go_sem, *]
    · have hq := HQ.out
      subst hq
      exact ⟨by rw [HBB.out]; rfl, fin_hi H.out HB.out HG.out HR.out (by repeat (first | with_reducible exact Below.refl _ _ | with_reducible refine hi_alloc ?_ (by omega) | with_reducible refine hi_set ?_ (by omega)))⟩
  · have HBB := hid hb
    clear hb
    generalize hq : w.heap.size = q at *
    have HQ := hid hq
    clear hq
    go_wp2
    refine bodyPost_ret (v := .agg #[.int .u8 0, .int .u64 (1), .string ((rchg L s).1.1.1.1.1), .string ((rchg L s).1.1.1.1.2), .string ((rchg L s).1.1.1.2), .string ((rchg L s).1.1.2.1.1), .string ((rchg L s).1.1.2.1.2), .string ((rchg L s).1.1.2.2)]) ?_ rfl ?_
    · simp [results, Try.results15, go_sem, *]
    · have hq := HQ.out
      subst hq
      exact ⟨by rw [HBB.out]; rfl, fin_hi H.out HB.out HG.out HR.out (by repeat (first | with_reducible exact Below.refl _ _ | with_reducible refine hi_alloc ?_ (by omega) | with_reducible refine hi_set ?_ (by omega)))⟩

set_option maxRecDepth 20000 in
set_option maxHeartbeats 1000000 in
theorem get_11 (r : Nat) (A : Option Addr) (L : List UInt8) (s : St) (kd : Nat) (hk : kd % 13 = 11) (l : Int) (hl : -9223372036854775808 ≤ l ∧ l ≤ 9223372036854775807) (w : World) (h : RS w r A L s) : Calls Try.prog 15 #[.pointer (some ⟨r, 0, none⟩), .int .u8 (kd : Int), .int .i64 l] w (RPost w r A L (vV ((rqry L s).1.1.1, ((rqry L s).1.1.2, ((rqry L s).1.2, ⟨#[]⟩)))) (rqry L s).2) := by
  have HL := hid hl
  have H := hid h
  have hk2 : (kd : Int) % 13 = 11 := by omega
  have HZ := hid (zg0 w)
  have HB := hid (show Below w.heap.size w (((w.alloc (.cells #[.int .u8 0, .int .u64 0, .string ⟨#[]⟩, .string ⟨#[]⟩, .string ⟨#[]⟩, .string ⟨#[]⟩, .string ⟨#[]⟩, .string ⟨#[]⟩] 31)).alloc (.cells #[.string ⟨#[]⟩, .string ⟨#[]⟩, .string ⟨#[]⟩, .string ⟨#[]⟩, .string ⟨#[]⟩, .string ⟨#[]⟩] 75)).alloc (.cells #[.int .u8 0, .int .u64 0, .string ⟨#[]⟩, .string ⟨#[]⟩, .string ⟨#[]⟩, .string ⟨#[]⟩, .string ⟨#[]⟩, .string ⟨#[]⟩] 31)) from g_alloc (g_alloc (g_alloc g_refl _) _) _)
  have hlt := h.lt
  clear hl h hk
  go_enter Try.func15, Try.ntmps15
  go_wp2_with fail
  refine (query_any r A L s _ (H.out.below HB.out)).mono ?_
  rintro e w1 ⟨rfl, hR, hg⟩
  obtain ⟨c0_0, f0_0, c0_1, f0_1, c0_2, f0_2, c0_3, f0_3, c0_4, f0_4, c0_5, f0_5, c0_6, f0_6, c0_7, f0_7, c1_0, f1_0, c1_1, f1_1, c1_2, f1_2, c1_3, f1_3, c1_4, f1_4, c1_5, f1_5, c2_0, f2_0, c2_1, f2_1, c2_2, f2_2, c2_3, f2_3, c2_4, f2_4, c2_5, f2_5, c2_6, f2_6, c2_7, f2_7, hs⟩ := HZ.out.grown hg (by omega) (by omega) (by omega)
  have HG := hid hg
  have HR := hid hR
  have hs1 : w.heap.size + 1 < w1.heap.size := by omega
  have hs0 : w.heap.size < w1.heap.size := by omega
  clear hg hR hlt
  have hwq : IntKind.u64.wrap ((rqry L s).1.1.1 : Int) = ((rqry L s).1.1.1 : Int) := wrap_u64 (by have := rqry_le L s; omega)
  generalize hq : w.heap.size = q at *
  have HQ := hid hq
  clear hq
  go_wp2
  refine bodyPost_ret (v := .agg #[.int .u8 0, .int .u64 (((rqry L s).1.1.1 : Int)), .string ((rqry L s).1.1.2.1.1), .string ((rqry L s).1.1.2.1.2), .string ((rqry L s).1.1.2.2), .string ((rqry L s).1.2.1), .string ((rqry L s).1.2.2), .string (⟨#[]⟩)]) ?_ rfl ?_
  · simp [results, Try.results15, go_sem, *]
  · have hq := HQ.out
    subst hq
    exact ⟨rfl, fin_hi H.out HB.out HG.out HR.out (by repeat (first | with_reducible exact Below.refl _ _ | with_reducible refine hi_alloc ?_ (by omega) | with_reducible refine hi_set ?_ (by omega)))⟩

set_option maxRecDepth 20000 in
set_option maxHeartbeats 1000000 in
theorem get_12 (r : Nat) (A : Option Addr) (L : List UInt8) (s : St) (kd : Nat) (hk : kd % 13 = 12) (l : Int) (hl : -9223372036854775808 ≤ l ∧ l ≤ 9223372036854775807) (w : World) (h : RS w r A L s) : Calls Try.prog 15 #[.pointer (some ⟨r, 0, none⟩), .int .u8 (kd : Int), .int .i64 l] w (RPost w r A L (vV ((upTo L (lmt l) 3 s).1, (((⟨#[]⟩, ⟨#[]⟩), ⟨#[]⟩), ((⟨#[]⟩, ⟨#[]⟩), ⟨#[]⟩)))) (upTo L (lmt l) 3 s).2) := by
  have HL := hid hl
  have H := hid h
  have hk2 : (kd : Int) % 13 = 12 := by omega
  have HZ := hid (zg0 w)
  have HB := hid (show Below w.heap.size w (((w.alloc (.cells #[.int .u8 0, .int .u64 0, .string ⟨#[]⟩, .string ⟨#[]⟩, .string ⟨#[]⟩, .string ⟨#[]⟩, .string ⟨#[]⟩, .string ⟨#[]⟩] 31)).alloc (.cells #[.string ⟨#[]⟩, .string ⟨#[]⟩, .string ⟨#[]⟩, .string ⟨#[]⟩, .string ⟨#[]⟩, .string ⟨#[]⟩] 75)).alloc (.cells #[.int .u8 0, .int .u64 0, .string ⟨#[]⟩, .string ⟨#[]⟩, .string ⟨#[]⟩, .string ⟨#[]⟩, .string ⟨#[]⟩, .string ⟨#[]⟩] 31)) from g_alloc (g_alloc (g_alloc g_refl _) _) _)
  have hlt := h.lt
  clear hl h hk
  go_enter Try.func15, Try.ntmps15
  go_wp2_with fail
  refine (len_any r A L l HL.out s _ (H.out.below HB.out)).mono ?_
  rintro e w1 ⟨rfl, hR, hg⟩
  obtain ⟨c0_0, f0_0, c0_1, f0_1, c0_2, f0_2, c0_3, f0_3, c0_4, f0_4, c0_5, f0_5, c0_6, f0_6, c0_7, f0_7, c1_0, f1_0, c1_1, f1_1, c1_2, f1_2, c1_3, f1_3, c1_4, f1_4, c1_5, f1_5, c2_0, f2_0, c2_1, f2_1, c2_2, f2_2, c2_3, f2_3, c2_4, f2_4, c2_5, f2_5, c2_6, f2_6, c2_7, f2_7, hs⟩ := HZ.out.grown hg (by omega) (by omega) (by omega)
  have HG := hid hg
  have HR := hid hR
  have hs1 : w.heap.size + 1 < w1.heap.size := by omega
  have hs0 : w.heap.size < w1.heap.size := by omega
  clear hg hR hlt
  have hnn : (0 : Int) ≤ ((upTo L (lmt l) 3 s).1 : Int) := by omega
  have hwl : IntKind.u64.wrap ((upTo L (lmt l) 3 s).1 : Int) = ((upTo L (lmt l) 3 s).1 : Int) := wrap_u64 (by have h1 := upTo_le L (lmt l) 3 (by decide) s; have h2 : lmt l ≤ 9223372036854775807 := (by unfold lmt; have := HL.out.2; omega); omega)
  generalize hq : w.heap.size = q at *
  have HQ := hid hq
  clear hq
  go_wp2
  refine bodyPost_ret (v := .agg #[.int .u8 0, .int .u64 (((upTo L (lmt l) 3 s).1 : Int)), .string (⟨#[]⟩), .string (⟨#[]⟩), .string (⟨#[]⟩), .string (⟨#[]⟩), .string (⟨#[]⟩), .string (⟨#[]⟩)]) ?_ rfl ?_
  · simp [results, Try.results15, go_sem, *]
  · have hq := HQ.out
    subst hq
    exact ⟨rfl, fin_hi H.out HB.out HG.out HR.out (by repeat (first | with_reducible exact Below.refl _ _ | with_reducible refine hi_alloc ?_ (by omega) | with_reducible refine hi_set ?_ (by omega)))⟩
end Go.Proofs.Ytohnhjmiblgkkaa
