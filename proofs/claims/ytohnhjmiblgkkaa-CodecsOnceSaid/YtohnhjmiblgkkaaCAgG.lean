/-
  THE CONTRACT of codecs.read at Goal, for whatever closure.
-/
import Derived.Test.YtohnhjmiblgkkaaCAgg
namespace Go.Proofs.Ytohnhjmiblgkkaa
open Go.RowKit

set_option maxRecDepth 20000 in
set_option maxHeartbeats 2000000 in
theorem read_goal (fn : Nat) (bs cs args : Array Value) (hcf : ∀ w, (callFunc fn (bs ++ cs)).run Try.prog w = .ok (.enter fn args) w) (r : Nat) (A : Option Addr) (L : List UInt8) (s : St) (w : World) (h : RS w r A L s) (f : St → ((ByteArray × ByteArray) × ByteArray) × St)
    (hf : s.fe = 0 → ∀ w', Below w.heap.size w w' → RS w' r A L s → Calls Try.prog fn args w' (RPost w' r A L (vGoal (f s).1) (f s).2)) :
    Calls Try.prog 72 #[.pointer (some ⟨r, 0, none⟩), .func (.func fn) bs cs] w (RPost w r A L (vGoal (wrap ((⟨#[]⟩, ⟨#[]⟩), ⟨#[]⟩) f s).1) (wrap ((⟨#[]⟩, ⟨#[]⟩), ⟨#[]⟩) f s).2) := by
  have H := hid h
  have HF := hid hf
  have hB0 : Below w.heap.size w ((w.alloc (.cells #[.string ⟨#[]⟩, .string ⟨#[]⟩, .string ⟨#[]⟩] 72)).alloc (.cells #[.string ⟨#[]⟩, .string ⟨#[]⟩, .string ⟨#[]⟩] 72)) := g_alloc (g_alloc g_refl _) _
  have H0 := hid (h.below hB0)
  have HB0 := hid hB0
  clear h hf hB0
  go_enter Try.func72, Try.ntmps72
  go_wp2_with fail
  refine (failed_any r A L s _ H0.out).mono ?_
  rintro e w' ⟨rfl, rfl⟩
  by_cases h0 : s.fe = 0
  · have c1 := H0.out.c1
    have HC := HF.out h0 _ HB0.out H0.out
    simp only [vGoal] at HC
    have HZ := hid h0
    clear HF
    generalize hb : decide (s.fe ≠ 0) = b0
    have hb0 : b0 = false := by rw [← hb, HZ.out]; rfl
    subst hb0
    clear hb h0
    go_wp2_with fail
    refine HC.mono ?_
    rintro e w2 ⟨rfl, hR2, hg2⟩
    clear HC c1
    have hqr : w.heap.size ≠ r := by have := H.out.lt; omega
    have hqr1 : w.heap.size + 1 ≠ r := by have := H.out.lt; omega
    have k0 : w2.cell? ⟨w.heap.size, 0, none⟩ = some (.string ⟨#[]⟩) := hg2.cell (by go_simp) (fun e => hqr (by injection e))
    have m0 : w2.cell? ⟨w.heap.size + 1, 0, none⟩ = some (.string ⟨#[]⟩) := hg2.cell (by go_simp) (fun e => hqr1 (by injection e))
    have f0 : w2.frozen? ⟨w.heap.size, 0, none⟩ = false := (hg2.frozen_far ⟨w.heap.size, 0, none⟩ (by simp; omega) (fun e => hqr (by injection e))).trans (by go_simp)
    have k1 : w2.cell? ⟨w.heap.size, 1, none⟩ = some (.string ⟨#[]⟩) := hg2.cell (by go_simp) (fun e => hqr (by injection e))
    have m1 : w2.cell? ⟨w.heap.size + 1, 1, none⟩ = some (.string ⟨#[]⟩) := hg2.cell (by go_simp) (fun e => hqr1 (by injection e))
    have f1 : w2.frozen? ⟨w.heap.size, 1, none⟩ = false := (hg2.frozen_far ⟨w.heap.size, 1, none⟩ (by simp; omega) (fun e => hqr (by injection e))).trans (by go_simp)
    have k2 : w2.cell? ⟨w.heap.size, 2, none⟩ = some (.string ⟨#[]⟩) := hg2.cell (by go_simp) (fun e => hqr (by injection e))
    have m2 : w2.cell? ⟨w.heap.size + 1, 2, none⟩ = some (.string ⟨#[]⟩) := hg2.cell (by go_simp) (fun e => hqr1 (by injection e))
    have f2 : w2.frozen? ⟨w.heap.size, 2, none⟩ = false := (hg2.frozen_far ⟨w.heap.size, 2, none⟩ (by simp; omega) (fun e => hqr (by injection e))).trans (by go_simp)
    have hql : w.heap.size + 1 < w2.heap.size := by have := hg2.size; simp at this; omega
    have hql0 : w.heap.size < w2.heap.size := by omega
    have HQ1 := hid hqr1
    have HQ := hid (And.intro hqr (And.intro hql hg2.size))
    have HR2 := hid hR2
    have HG2 := hid hg2
    clear hR2 hg2 hqr hqr1
    go_wp2_with fail
    refine (failed_any r A L (f s).2 _ (RS.below HR2.out (by repeat (first | with_reducible exact g_refl | with_reducible refine g_alloc ?_ _ | with_reducible refine g_set2 ?_ (Nat.le_refl _))))).mono ?_
    rintro e w3 ⟨rfl, rfl⟩
    by_cases h2 : (f s).2.fe = 0
    · have HW := hid (wrap_good (z := ((⟨#[]⟩, ⟨#[]⟩), ⟨#[]⟩)) (f := f) HZ.out h2)
      generalize hb : decide ((f s).2.fe ≠ 0) = b0
      have hb0 : b0 = false := by rw [← hb, h2]; rfl
      subst hb0
      clear hb h2
      go_wp2
      refine bodyPost_ret (v := .agg #[.string (f s).1.1.1, .string (f s).1.1.2, .string (f s).1.2]) ?_ rfl ?_
      · simp [results, Try.results72, go_sem, *]
      · unfold RPost
        rw [HW.out]
        exact ⟨rfl, fin_agg H.out HB0.out HG2.out HR2.out (Nat.le_refl _) (by repeat (first | with_reducible exact World.grownBy.refl _ _ | with_reducible refine gbs_set ?_ | with_reducible refine gbs_alloc ?_))⟩
    · have HW := hid (wrap_fail (z := ((⟨#[]⟩, ⟨#[]⟩), ⟨#[]⟩)) (f := f) HZ.out h2)
      generalize hb : decide ((f s).2.fe ≠ 0) = b0
      have hb0 : b0 = true := by rw [← hb]; simp [h2]
      subst hb0
      have c1 := HR2.out.c1
      have fr1 := HR2.out.f 1
      have hlr : r < w2.heap.size := HR2.out.lt
      have hrq : ¬ w.heap.size = r := HQ.out.1
      have hrq1 : ¬ w.heap.size + 1 = r := HQ1.out
      clear hb h2
      go_wp2
      refine bodyPost_ret (v := .agg #[.string ⟨#[]⟩, .string ⟨#[]⟩, .string ⟨#[]⟩]) ?_ rfl ?_
      · simp [results, Try.results72, go_sem, *]
      · unfold RPost
        rw [HW.out]
        exact ⟨rfl, fin_agg H.out HB0.out (HG2.out.trans (gb_set _ _ _ _)) (HR2.out.at1 s.at_ H.out.ok.1) (Nat.le_refl _) (by repeat (first | with_reducible exact World.grownBy.refl _ _ | with_reducible refine gbs_set ?_ | with_reducible refine gbs_alloc ?_))⟩
  · have HW := hid (wrap_bad (z := ((⟨#[]⟩, ⟨#[]⟩), ⟨#[]⟩)) (f := f) h0)
    generalize hb : decide (s.fe ≠ 0) = b0
    have hb0 : b0 = true := by rw [← hb]; simp [h0]
    subst hb0
    clear hb h0 HF
    go_wp2
    refine bodyPost_ret (v := .agg #[.string ⟨#[]⟩, .string ⟨#[]⟩, .string ⟨#[]⟩]) ?_ rfl ?_
    · simp [results, Try.results72, go_sem, *]
    · unfold RPost
      rw [HW.out]
      exact ⟨rfl, fin_b H.out (by repeat (first | with_reducible exact HB0.out | with_reducible refine g_alloc ?_ _ | with_reducible refine g_set2 ?_ (Nat.le_refl _)))⟩
end Go.Proofs.Ytohnhjmiblgkkaa
