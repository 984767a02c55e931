/-
  THE CONTRACTS of a Reader's Tuple.
-/
import Derived.Test.YtohnhjmiblgkkaaCGoal
import Derived.Test.YtohnhjmiblgkkaaCAgT
import Derived.Deep.RegionHeld3
namespace Go.Proofs.Ytohnhjmiblgkkaa
open Go.RowKit
attribute [local go_sem] vObj vGoal vTup vChg vQry

set_option maxRecDepth 20000 in
set_option maxHeartbeats 2000000 in
theorem tuple1_any (r a : Nat) (A : Option Addr) (L : List UInt8) (s : St) (w : World) (h : RS w r A L s) (ca : w.cell? ⟨a, 0, none⟩ = some (.pointer (some ⟨r, 0, none⟩))) (har : a ≠ r) :
    Calls Try.prog 75 #[.pointer (some ⟨a, 0, none⟩)] w (RPost w r A L (vTup (both (rgoal L) (rgoal L) s).1) (both (rgoal L) (rgoal L) s).2) := by
  have H := hid h
  have hlt := h.lt
  have hal : a < w.heap.size := World.block_lt_of_cell? _ _ ca
  have HQ := hid (show w.heap.size ≠ r by omega)
  have HQ2 := hid har
  have HQ3 := hid (show w.heap.size ≠ a by omega)
  have hB : Below w.heap.size w (w.alloc (.cells #[.string ⟨#[]⟩, .string ⟨#[]⟩, .string ⟨#[]⟩, .string ⟨#[]⟩, .string ⟨#[]⟩, .string ⟨#[]⟩] 75)) := g_alloc g_refl _
  have HB := hid hB
  have ca1 : (w.alloc (.cells #[.string ⟨#[]⟩, .string ⟨#[]⟩, .string ⟨#[]⟩, .string ⟨#[]⟩, .string ⟨#[]⟩, .string ⟨#[]⟩] 75)).drew.cell? ⟨a, 0, none⟩ = some (.pointer (some ⟨r, 0, none⟩)) := (World.cell?_alloc_lt w _ _ hal).trans ca
  have HZK := hid (show ∀ x, (w.alloc (.cells #[.string ⟨#[]⟩, .string ⟨#[]⟩, .string ⟨#[]⟩, .string ⟨#[]⟩, .string ⟨#[]⟩, .string ⟨#[]⟩] 75)).drew.grownBy x (some r) → x.cell? ⟨w.heap.size, 0, none⟩ = some (.string ⟨#[]⟩) ∧ x.frozen? ⟨w.heap.size, 0, none⟩ = false ∧ x.cell? ⟨w.heap.size, 1, none⟩ = some (.string ⟨#[]⟩) ∧ x.frozen? ⟨w.heap.size, 1, none⟩ = false ∧ x.cell? ⟨w.heap.size, 2, none⟩ = some (.string ⟨#[]⟩) ∧ x.frozen? ⟨w.heap.size, 2, none⟩ = false ∧ x.cell? ⟨w.heap.size, 3, none⟩ = some (.string ⟨#[]⟩) ∧ x.frozen? ⟨w.heap.size, 3, none⟩ = false ∧ x.cell? ⟨w.heap.size, 4, none⟩ = some (.string ⟨#[]⟩) ∧ x.frozen? ⟨w.heap.size, 4, none⟩ = false ∧ x.cell? ⟨w.heap.size, 5, none⟩ = some (.string ⟨#[]⟩) ∧ x.frozen? ⟨w.heap.size, 5, none⟩ = false from fun x hx => ⟨hx.cell (by go_simp) (fun e => HQ.out (by injection e)), (hx.frozen_far ⟨w.heap.size, 0, none⟩ (by simp) (fun e => HQ.out (by injection e))).trans (by go_simp), hx.cell (by go_simp) (fun e => HQ.out (by injection e)), (hx.frozen_far ⟨w.heap.size, 1, none⟩ (by simp) (fun e => HQ.out (by injection e))).trans (by go_simp), hx.cell (by go_simp) (fun e => HQ.out (by injection e)), (hx.frozen_far ⟨w.heap.size, 2, none⟩ (by simp) (fun e => HQ.out (by injection e))).trans (by go_simp), hx.cell (by go_simp) (fun e => HQ.out (by injection e)), (hx.frozen_far ⟨w.heap.size, 3, none⟩ (by simp) (fun e => HQ.out (by injection e))).trans (by go_simp), hx.cell (by go_simp) (fun e => HQ.out (by injection e)), (hx.frozen_far ⟨w.heap.size, 4, none⟩ (by simp) (fun e => HQ.out (by injection e))).trans (by go_simp), hx.cell (by go_simp) (fun e => HQ.out (by injection e)), (hx.frozen_far ⟨w.heap.size, 5, none⟩ (by simp) (fun e => HQ.out (by injection e))).trans (by go_simp)⟩)
  have HR1 := hid (RS.below (w' := (w.alloc (.cells #[.string ⟨#[]⟩, .string ⟨#[]⟩, .string ⟨#[]⟩, .string ⟨#[]⟩, .string ⟨#[]⟩, .string ⟨#[]⟩] 75)).drew) H.out (g_drew (g_alloc g_refl _)))
  clear h hB har
  go_enter Try.func75, Try.ntmps75
  go_wp2_with fail
  generalize hW : (w.alloc (.cells #[.string ⟨#[]⟩, .string ⟨#[]⟩, .string ⟨#[]⟩, .string ⟨#[]⟩, .string ⟨#[]⟩, .string ⟨#[]⟩] 75)) = W1 at *
  generalize hq : w.heap.size = q at *
  have HE := hid (And.intro hW hq)
  clear hW hq
  go_region_held3 (fun w' => w'.cell? ⟨a, 0, none⟩ = some (.pointer (some ⟨r, 0, none⟩))) (first | with_reducible assumption | with_reducible exact ca1 | ((repeat (with_reducible refine keep_set HQ3.out ?_)); with_reducible assumption) | exact (World.grownBy.cell (by with_reducible assumption) (by with_reducible assumption) (fun e => HQ2.out (by injection e))))
    (first | (go_at_call 47; (with_reducible refine Calls.mono (goal_any r A L s _ HR1.out) ?_); rintro y0 x0 ⟨rfl, hR0, hg0⟩; have hs0 := hg0.size; skip) | (go_at_call 48; (with_reducible refine Calls.mono (subject_any r A L _ _ hR0) ?_); rintro y1 x1 ⟨rfl, hR1, hg1⟩; have hs1 := hg1.size; obtain ⟨k0, f0, k1, f1, k2, f2, k3, f3, k4, f4, k5, f5⟩ := HZK.out x1 (hg0.trans hg1); skip))
  all_goals go_wp2
  all_goals (obtain ⟨hW, hq⟩ := HE.out; subst hq; subst hW)
  refine bodyPost_ret (v := .agg #[.string (rgoal L s).1.1.1, .string (rgoal L s).1.1.2, .string (rgoal L s).1.2, .string (rgoal L (rgoal L s).2).1.1.1, .string (rgoal L (rgoal L s).2).1.1.2, .string (rgoal L (rgoal L s).2).1.2]) ?_ rfl ?_
  · simp [results, Try.results75, go_sem, *]
  · exact ⟨rfl, fin_agg H.out (g_drew HB.out) (hg0.trans hg1) hR1 (Nat.le_refl _) (by repeat (first | with_reducible exact World.grownBy.refl _ _ | with_reducible refine gbs_set ?_ | with_reducible refine gbs_alloc ?_))⟩

set_option maxRecDepth 20000 in
set_option maxHeartbeats 1000000 in
theorem tuple_any (r : Nat) (A : Option Addr) (L : List UInt8) (s : St) (w : World) (h : RS w r A L s) :
    Calls Try.prog 49 #[.pointer (some ⟨r, 0, none⟩)] w (RPost w r A L (vTup (rtup L s).1) (rtup L s).2) := by
  have H := hid h
  have hlt := h.lt
  have hB : Below w.heap.size w ((w.alloc (.cells #[.pointer (some ⟨r, 0, none⟩)] 36)).alloc (.cells #[.string ⟨#[]⟩, .string ⟨#[]⟩, .string ⟨#[]⟩, .string ⟨#[]⟩, .string ⟨#[]⟩, .string ⟨#[]⟩] 75)) := g_alloc (g_alloc g_refl _) _
  have HB := hid hB
  have HC := hid (show ((w.alloc (.cells #[.pointer (some ⟨r, 0, none⟩)] 36)).alloc (.cells #[.string ⟨#[]⟩, .string ⟨#[]⟩, .string ⟨#[]⟩, .string ⟨#[]⟩, .string ⟨#[]⟩, .string ⟨#[]⟩] 75)).cell? ⟨w.heap.size, 0, none⟩ = some (.pointer (some ⟨r, 0, none⟩)) by go_simp)
  clear h hB
  go_enter Try.func49, Try.ntmps49
  go_wp2_with fail
  refine (read_tup 75 #[] #[.pointer (some ⟨w.heap.size, 0, none⟩)] #[.pointer (some ⟨w.heap.size, 0, none⟩)] (fun _ => by kernel_rfl) r A L s _ (H.out.below HB.out) (both (rgoal L) (rgoal L)) (fun _ w' hw' hR' => tuple1_any r w.heap.size A L s w' hR' ((hw'.cell (p := ⟨w.heap.size, 0, none⟩) (by simp; omega)).trans HC.out) (by omega))).mono ?_
  rintro x w1 hp
  replace hp : RPost ((w.alloc (.cells #[.pointer (some ⟨r, 0, none⟩)] 36)).alloc (.cells #[.string ⟨#[]⟩, .string ⟨#[]⟩, .string ⟨#[]⟩, .string ⟨#[]⟩, .string ⟨#[]⟩, .string ⟨#[]⟩] 75)) r A L (vTup (rtup L s).1) (rtup L s).2 x w1 := hp
  obtain ⟨rfl, h1, h2⟩ := hp
  have hq1 : w.heap.size + 1 ≠ r := by omega
  have k0 : w1.cell? ⟨w.heap.size + 1, 0, none⟩ = some (.string ⟨#[]⟩) := h2.cell (by go_simp) (fun e => hq1 (by injection e))
  have f0 : w1.frozen? ⟨w.heap.size + 1, 0, none⟩ = false := (h2.frozen_far ⟨w.heap.size + 1, 0, none⟩ (by simp) (fun e => hq1 (by injection e))).trans (by go_simp)
  have k1 : w1.cell? ⟨w.heap.size + 1, 1, none⟩ = some (.string ⟨#[]⟩) := h2.cell (by go_simp) (fun e => hq1 (by injection e))
  have f1 : w1.frozen? ⟨w.heap.size + 1, 1, none⟩ = false := (h2.frozen_far ⟨w.heap.size + 1, 1, none⟩ (by simp) (fun e => hq1 (by injection e))).trans (by go_simp)
  have k2 : w1.cell? ⟨w.heap.size + 1, 2, none⟩ = some (.string ⟨#[]⟩) := h2.cell (by go_simp) (fun e => hq1 (by injection e))
  have f2 : w1.frozen? ⟨w.heap.size + 1, 2, none⟩ = false := (h2.frozen_far ⟨w.heap.size + 1, 2, none⟩ (by simp) (fun e => hq1 (by injection e))).trans (by go_simp)
  have k3 : w1.cell? ⟨w.heap.size + 1, 3, none⟩ = some (.string ⟨#[]⟩) := h2.cell (by go_simp) (fun e => hq1 (by injection e))
  have f3 : w1.frozen? ⟨w.heap.size + 1, 3, none⟩ = false := (h2.frozen_far ⟨w.heap.size + 1, 3, none⟩ (by simp) (fun e => hq1 (by injection e))).trans (by go_simp)
  have k4 : w1.cell? ⟨w.heap.size + 1, 4, none⟩ = some (.string ⟨#[]⟩) := h2.cell (by go_simp) (fun e => hq1 (by injection e))
  have f4 : w1.frozen? ⟨w.heap.size + 1, 4, none⟩ = false := (h2.frozen_far ⟨w.heap.size + 1, 4, none⟩ (by simp) (fun e => hq1 (by injection e))).trans (by go_simp)
  have k5 : w1.cell? ⟨w.heap.size + 1, 5, none⟩ = some (.string ⟨#[]⟩) := h2.cell (by go_simp) (fun e => hq1 (by injection e))
  have f5 : w1.frozen? ⟨w.heap.size + 1, 5, none⟩ = false := (h2.frozen_far ⟨w.heap.size + 1, 5, none⟩ (by simp) (fun e => hq1 (by injection e))).trans (by go_simp)
  have H1 := hid h1
  have H2 := hid h2
  simp only [vTup]
  clear h1 h2 hq1
  go_wp2
  refine bodyPost_ret (v := .agg #[.string (rtup L s).1.1.1.1, .string (rtup L s).1.1.1.2, .string (rtup L s).1.1.2, .string (rtup L s).1.2.1.1, .string (rtup L s).1.2.1.2, .string (rtup L s).1.2.2]) ?_ rfl ?_
  · simp [results, Try.results49, go_sem, *]
  · exact ⟨rfl, fin_agg H.out HB.out H2.out H1.out (Nat.le_add_right _ 1) (by repeat (first | with_reducible exact World.grownBy.refl _ _ | with_reducible refine gbs_set ?_ | with_reducible refine gbs_alloc ?_))⟩
end Go.Proofs.Ytohnhjmiblgkkaa
