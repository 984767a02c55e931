/-
  THE CONTRACTS of codecs.fill and of a Reader's Object.
-/
import Derived.Test.YtohnhjmiblgkkaaCAgg
import Derived.Deep.LoopGhost
namespace Go.Proofs.Ytohnhjmiblgkkaa
open Go.RowKit

/-- but for blocks r and q, the world is as it was -/
structure F2 (w w' : World) (r q : Nat) : Prop where
  os : w'.os = w.os
  tape : w'.tape = w.tape
  output : w'.output = w.output
  size : w.heap.size ≤ w'.heap.size
  block : ∀ k, k < w.heap.size → k ≠ r → k ≠ q → w'.heap[k]? = w.heap[k]?
theorem F2.refl (w : World) (r q : Nat) : F2 w w r q := ⟨rfl, rfl, rfl, Nat.le_refl _, fun _ _ _ _ => rfl⟩
theorem F2.r {a b c : World} {r q : Nat} (h : F2 a b r q) (hg : b.grownBy c (some r)) : F2 a c r q :=
  ⟨hg.os.trans h.os, hg.tape.trans h.tape, hg.output.trans h.output, Nat.le_trans h.size hg.size, fun k hk h1 h2 => (hg.block k (Nat.lt_of_lt_of_le hk h.size) (fun e => h1 (by injection e))).trans (h.block k hk h1 h2)⟩
theorem F2.q {a b c : World} {r q : Nat} (h : F2 a b r q) (hg : b.grownBy c (some q)) : F2 a c r q :=
  ⟨hg.os.trans h.os, hg.tape.trans h.tape, hg.output.trans h.output, Nat.le_trans h.size hg.size, fun k hk h1 h2 => (hg.block k (Nat.lt_of_lt_of_le hk h.size) (fun e => h2 (by injection e))).trans (h.block k hk h1 h2)⟩
theorem F2.cell {w w' : World} {r q k i : Nat} {v : Value} (h : F2 w w' r q) (hc : w.cell? ⟨k, i, none⟩ = some v) (h1 : k ≠ r) (h2 : k ≠ q) : w'.cell? ⟨k, i, none⟩ = some v :=
  (World.cell?_of_block (w := w) (a := ⟨k, i, none⟩) (h.block k (World.block_lt_of_cell? _ _ hc) h1 h2)).trans hc
/-- a new block that was written aside, only r has turned -/
theorem F2.grown {w w0 w' : World} {r q : Nat} (h0 : Below w.heap.size w w0) (h : F2 w0 w' r q) (hq : w.heap.size ≤ q) : w.grownBy w' (some r) :=
  ⟨h.os.trans h0.os, h.tape.trans h0.tape, h.output.trans h0.output, Nat.le_trans h0.size h.size, fun k hk h1 => (h.block k (Nat.lt_of_lt_of_le hk h0.size) (fun e => h1 (by rw [e])) (by omega)).trans (h0.block k hk)⟩
theorem fin_agg2 {w w0 wa wf : World} {r q : Nat} {A : Option Addr} {L : List UInt8} {s0 t : St} (h : RS w r A L s0) (h0 : Below w.heap.size w w0) (hR : RS wa r A L t) (ha : F2 w0 wa r q) (hq : w.heap.size ≤ q) (hgc : wa.grownBy wf (some q)) : RS wf r A L t ∧ w.grownBy wf (some r) :=
  ⟨hR.other hgc (by have := h.lt; omega) (fun hn a ha => by have := h.dlt hn a ha; omega), F2.grown h0 (ha.q hgc) hq⟩
theorem keep_set {w : World} {a q o : Nat} {u : Value} {v : Option Value} (h : q ≠ a) (hc : w.cell? ⟨a, 0, none⟩ = v) : (w.setCell ⟨q, o, none⟩ u).cell? ⟨a, 0, none⟩ = v :=
  (World.cell?_setCell_other _ _ _ _ (ne_blk h)).trans hc
/-- the states of a reader that reads two names -/
def st2 (L : List UInt8) (s : St) : Nat → St
  | 0 => s
  | 1 => (rname L s).2
  | _ => (rname L (rname L s).2).2
set_option maxRecDepth 20000 in
set_option maxHeartbeats 1000000 in
theorem fill_any (r q p : Nat) (A : Option Addr) (L : List UInt8) (s : St) (w : World) (h : RS w r A L s) (hqr : q ≠ r) (hpr : p ≠ r) (hpq : p ≠ q) (hd : L ≠ [] → ∀ a, A = some a → a.block ≠ q)
    (hp0 : w.cell? ⟨p, 0, none⟩ = some (.pointer (some ⟨q, 0, none⟩))) (hp1 : w.cell? ⟨p, 1, none⟩ = some (.pointer (some ⟨q, 1, none⟩)))
    (hq0 : w.cell? ⟨q, 0, none⟩ = some (.string ⟨#[]⟩)) (hq1 : w.cell? ⟨q, 1, none⟩ = some (.string ⟨#[]⟩)) (hf0 : w.frozen? ⟨q, 0, none⟩ = false) (hf1 : w.frozen? ⟨q, 1, none⟩ = false) :
    Calls Try.prog 62 #[.func (.func 63) #[.pointer (some ⟨r, 0, none⟩)] #[], .slice (some ⟨p, 0, none⟩) 2 2] w fun e w' =>
      e = .returned (.tuple #[]) ∧ RS w' r A L (st2 L s 2) ∧ w'.cell? ⟨q, 0, none⟩ = some (.string (rname L s).1) ∧ w'.cell? ⟨q, 1, none⟩ = some (.string (rname L (rname L s).2).1) ∧ w'.frozen? ⟨q, 0, none⟩ = false ∧ w'.frozen? ⟨q, 1, none⟩ = false ∧ F2 w w' r q := by
  have H := hid h
  have HN := hid (And.intro hqr (And.intro hpr (And.intro hpq hd)))
  have HP := hid (And.intro hp0 hp1)
  have HQ := hid (And.intro hq0 (And.intro hq1 (And.intro hf0 hf1)))
  clear h hqr hpr hpq hd hp0 hp1 hq0 hq1 hf0 hf1
  go_enter Try.func62, Try.ntmps62
  go_wp2
  go_loopg [8] 2 (fun k z wr => ∃ i : Nat, k = 2 - i ∧ i ≤ 2 ∧ z = .int .i64 i ∧ RS wr r A L (st2 L s i) ∧ F2 w wr r q ∧ wr.cell? ⟨q, 0, none⟩ = some (.string (if 0 < i then (rname L s).1 else ⟨#[]⟩)) ∧ wr.cell? ⟨q, 1, none⟩ = some (.string (if 1 < i then (rname L (rname L s).2).1 else ⟨#[]⟩)) ∧ wr.frozen? ⟨q, 0, none⟩ = false ∧ wr.frozen? ⟨q, 1, none⟩ = false)
  case atStart => exact ⟨0, rfl, by omega, rfl, H.out, F2.refl _ _ _, HQ.out.1, HQ.out.2.1, HQ.out.2.2.1, HQ.out.2.2.2⟩
  case round =>
    obtain ⟨i, hk, hi, rfl, hR, hF, q0, q1, f0, f1⟩ := hrel
    have HK := hid hk
    have HR := hid hR
    have HF := hid hF
    clear hk hR hF
    rcases (show i = 0 ∨ i = 1 ∨ i = 2 by omega) with rfl | rfl | rfl <;> clear hi
    · replace q0 : wr.cell? ⟨q, 0, none⟩ = some (.string ⟨#[]⟩) := q0
      replace q1 : wr.cell? ⟨q, 1, none⟩ = some (.string ⟨#[]⟩) := q1
      have c0 := HF.out.cell HP.out.1 HN.out.2.1 HN.out.2.2.1
      go_wp2_with fail
      refine (name_any r A L s wr HR.out).mono ?_
      rintro e w1 ⟨rfl, hR1, hg1⟩
      have k0 : w1.cell? ⟨q, 0, none⟩ = some (.string ⟨#[]⟩) := hg1.cell q0 (fun e => HN.out.1 (by injection e))
      have k1 : w1.cell? ⟨q, 1, none⟩ = some (.string ⟨#[]⟩) := hg1.cell q1 (fun e => HN.out.1 (by injection e))
      have m0 := (hg1.frozen_far ⟨q, 0, none⟩ (World.block_lt_of_cell? _ _ q0) (fun e => HN.out.1 (by injection e))).trans f0
      have m1 := (hg1.frozen_far ⟨q, 1, none⟩ (World.block_lt_of_cell? _ _ q1) (fun e => HN.out.1 (by injection e))).trans f1
      have HS := hid (And.intro hR1 hg1)
      have HM := hid (And.intro k1 (And.intro m0 m1))
      clear c0 q0 q1 f0 f1 hR1 hg1 k1 m1
      go_wp2
      go_roundg (2 - (0 + 1))
      case measure => have := HK.out; omega
      case rel =>
        exact ⟨0 + 1, rfl, by omega, by go_num, HS.out.1.other (gb_set _ _ _ _) (Ne.symm HN.out.1) HN.out.2.2.2, (HF.out.r HS.out.2).q (gb_set _ _ _ _), World.cell?_setCell_same _ _ _ k0, (World.cell?_setCell_other _ _ _ _ (ne_off (by decide))).trans HM.out.1, by rw [World.frozen?_setCell]; exact HM.out.2.1, by rw [World.frozen?_setCell]; exact HM.out.2.2⟩
    · replace q0 : wr.cell? ⟨q, 0, none⟩ = some (.string (rname L s).1) := q0
      replace q1 : wr.cell? ⟨q, 1, none⟩ = some (.string ⟨#[]⟩) := q1
      have c0 := HF.out.cell HP.out.2 HN.out.2.1 HN.out.2.2.1
      go_wp2_with fail
      refine (name_any r A L (rname L s).2 wr HR.out).mono ?_
      rintro e w1 ⟨rfl, hR1, hg1⟩
      have k0 : w1.cell? ⟨q, 0, none⟩ = some (.string (rname L s).1) := hg1.cell q0 (fun e => HN.out.1 (by injection e))
      have k1 : w1.cell? ⟨q, 1, none⟩ = some (.string ⟨#[]⟩) := hg1.cell q1 (fun e => HN.out.1 (by injection e))
      have m0 := (hg1.frozen_far ⟨q, 0, none⟩ (World.block_lt_of_cell? _ _ q0) (fun e => HN.out.1 (by injection e))).trans f0
      have m1 := (hg1.frozen_far ⟨q, 1, none⟩ (World.block_lt_of_cell? _ _ q1) (fun e => HN.out.1 (by injection e))).trans f1
      have HS := hid (And.intro hR1 hg1)
      have HM := hid (And.intro k0 (And.intro m0 m1))
      clear c0 q0 q1 f0 f1 hR1 hg1 k0 m0
      go_wp2
      go_roundg (2 - (1 + 1))
      case measure => have := HK.out; omega
      case rel =>
        exact ⟨1 + 1, rfl, by omega, by go_num, HS.out.1.other (gb_set _ _ _ _) (Ne.symm HN.out.1) HN.out.2.2.2, (HF.out.r HS.out.2).q (gb_set _ _ _ _), (World.cell?_setCell_other _ _ _ _ (ne_off (by decide))).trans HM.out.1, World.cell?_setCell_same _ _ _ k1, by rw [World.frozen?_setCell]; exact HM.out.2.1, by rw [World.frozen?_setCell]; exact HM.out.2.2⟩
    · replace q0 : wr.cell? ⟨q, 0, none⟩ = some (.string (rname L s).1) := q0
      replace q1 : wr.cell? ⟨q, 1, none⟩ = some (.string (rname L (rname L s).2).1) := q1
      have HE := hid (And.intro q0 (And.intro q1 (And.intro f0 f1)))
      clear q0 q1 f0 f1
      go_wp2
      go_end0
      exact ⟨rfl, HR.out, HE.out.1, HE.out.2.1, HE.out.2.2.1, HE.out.2.2.2, HF.out⟩

set_option maxRecDepth 20000 in
set_option maxHeartbeats 1000000 in
theorem object1_any (r a : Nat) (A : Option Addr) (L : List UInt8) (s : St) (w : World) (h : RS w r A L s) (ca : w.cell? ⟨a, 0, none⟩ = some (.pointer (some ⟨r, 0, none⟩))) (_ : a ≠ r) :
    Calls Try.prog 61 #[.pointer (some ⟨a, 0, none⟩)] w (RPost w r A L (vObj (both (rname L) (rname L) s).1) (both (rname L) (rname L) s).2) := by
  have H := hid h
  have hal := World.block_lt_of_cell? _ _ ca
  have hlt := h.lt
  clear h
  go_enter Try.func61, Try.ntmps61
  go_wp2_with fail
  have hB : Below w.heap.size w ((w.alloc (.cells #[.string ⟨#[]⟩, .string ⟨#[]⟩] 63)).alloc (.cells #[.pointer (some ⟨w.heap.size, 0, none⟩), .pointer (some ⟨w.heap.size, 1, none⟩)] 115)) := g_alloc (g_alloc g_refl _) _
  have HB := hid hB
  clear hB
  refine (fill_any r w.heap.size (w.heap.size + 1) A L s _ (H.out.below HB.out) (by omega) (by omega) (by omega) (fun hn a ha => Nat.ne_of_lt (H.out.dlt hn a ha)) (by go_simp) (by go_simp) (by go_simp) (by go_simp) (by go_simp) (by go_simp)).mono ?_
  rintro e w1 ⟨rfl, hR1, q0, q1, f0, f1, hF⟩
  have HR := hid (And.intro hR1 hF)
  clear hR1 hF
  go_wp2
  refine bodyPost_ret (v := .agg #[.string (rname L s).1, .string (rname L (rname L s).2).1]) ?_ rfl ?_
  · simp [results, Try.results61, go_sem, *]
  · refine ⟨rfl, ?_⟩
    exact fin_agg2 H.out HB.out HR.out.1 HR.out.2 (Nat.le_refl _) (by repeat (first | with_reducible exact World.grownBy.refl _ _ | with_reducible refine gbs_set ?_ | with_reducible refine gbs_alloc ?_))

set_option maxRecDepth 20000 in
set_option maxHeartbeats 1000000 in
theorem object_any (r : Nat) (A : Option Addr) (L : List UInt8) (s : St) (w : World) (h : RS w r A L s) :
    Calls Try.prog 26 #[.pointer (some ⟨r, 0, none⟩)] w (RPost w r A L (vObj (robj L s).1) (robj L s).2) := by
  have H := hid h
  have hlt := h.lt
  have hB : Below w.heap.size w ((w.alloc (.cells #[.pointer (some ⟨r, 0, none⟩)] 36)).alloc (.cells #[.string ⟨#[]⟩, .string ⟨#[]⟩] 63)) := g_alloc (g_alloc g_refl _) _
  have HB := hid hB
  have HC := hid (show ((w.alloc (.cells #[.pointer (some ⟨r, 0, none⟩)] 36)).alloc (.cells #[.string ⟨#[]⟩, .string ⟨#[]⟩] 63)).cell? ⟨w.heap.size, 0, none⟩ = some (.pointer (some ⟨r, 0, none⟩)) by go_simp)
  clear h hB
  go_enter Try.func26, Try.ntmps26
  go_wp2_with fail
  refine (read_obj 61 #[] #[.pointer (some ⟨w.heap.size, 0, none⟩)] #[.pointer (some ⟨w.heap.size, 0, none⟩)] (fun _ => by kernel_rfl) r A L s _ (H.out.below HB.out) (both (rname L) (rname L)) (fun _ w' hw' hR' => object1_any r w.heap.size A L s w' hR' ((hw'.cell (p := ⟨w.heap.size, 0, none⟩) (by simp; omega)).trans HC.out) (by omega))).mono ?_
  rintro x w1 hp
  replace hp : RPost ((w.alloc (.cells #[.pointer (some ⟨r, 0, none⟩)] 36)).alloc (.cells #[.string ⟨#[]⟩, .string ⟨#[]⟩] 63)) r A L (vObj (robj L s).1) (robj L s).2 x w1 := hp
  obtain ⟨rfl, h1, h2⟩ := hp
  have hq1 : w.heap.size + 1 ≠ r := by omega
  have k0 : w1.cell? ⟨w.heap.size + 1, 0, none⟩ = some (.string ⟨#[]⟩) := h2.cell (by go_simp) (fun e => hq1 (by injection e))
  have f0 : w1.frozen? ⟨w.heap.size + 1, 0, none⟩ = false := (h2.frozen_far ⟨w.heap.size + 1, 0, none⟩ (by simp) (fun e => hq1 (by injection e))).trans (by go_simp)
  have k1 : w1.cell? ⟨w.heap.size + 1, 1, none⟩ = some (.string ⟨#[]⟩) := h2.cell (by go_simp) (fun e => hq1 (by injection e))
  have f1 : w1.frozen? ⟨w.heap.size + 1, 1, none⟩ = false := (h2.frozen_far ⟨w.heap.size + 1, 1, none⟩ (by simp) (fun e => hq1 (by injection e))).trans (by go_simp)
  have H1 := hid h1
  have H2 := hid h2
  simp only [vObj]
  clear h1 h2 hq1
  go_wp2
  refine bodyPost_ret (v := .agg #[.string (robj L s).1.1, .string (robj L s).1.2]) ?_ rfl ?_
  · simp [results, Try.results26, go_sem, *]
  · exact ⟨rfl, fin_agg H.out HB.out H2.out H1.out (Nat.le_add_right _ 1) (by repeat (first | with_reducible exact World.grownBy.refl _ _ | with_reducible refine gbs_set ?_ | with_reducible refine gbs_alloc ?_))⟩
end Go.Proofs.Ytohnhjmiblgkkaa
