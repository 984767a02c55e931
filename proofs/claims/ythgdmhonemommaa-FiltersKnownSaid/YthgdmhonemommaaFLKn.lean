/-
  FiltersKnown returns true: the walk.
-/
import Derived.Test.YthgdmhonemommaaFFac
import Derived.Deep.LoopGhost
import Derived.Deep.DeepCutAuto
namespace Go.Proofs.Ythgdmhonemommaa
open Go.RowKit Go.Sort

theorem fprefix_v (a b c d e f : ByteArray) (x : Bool) (n : Int) (w : World) (h : fpre ⟨a, b, c, d, e, f, x⟩ = n) :
    Calls Try.prog 23 #[.agg #[.string a, .string b, .string c, .string d, .string e, .string f, .bool x]] w fun r w' => r = .returned (.int .i64 n) ∧ Below w.heap.size w w' := by
  have q := fprefix ⟨a, b, c, d, e, f, x⟩ w; rw [h] at q; exact q
theorem kf0 : fpar ⟨#[42, 58, 42, 35, 42]⟩ = (⟨⟨#[]⟩, ⟨#[]⟩, ⟨#[]⟩, ⟨#[]⟩, ⟨#[]⟩, ⟨#[]⟩, false⟩, 0) := by decide +kernel
theorem kg0 : fpar (⟨#[42, 58, 42, 35, 42]⟩ ++ ⟨#[64, 117, 58, 97]⟩) = (⟨⟨#[]⟩, ⟨#[]⟩, ⟨#[]⟩, ⟨#[117]⟩, ⟨#[97]⟩, ⟨#[]⟩, true⟩, 0) := by decide +kernel
theorem kp0 : fpre ⟨⟨#[]⟩, ⟨#[]⟩, ⟨#[]⟩, ⟨#[]⟩, ⟨#[]⟩, ⟨#[]⟩, false⟩ = 0 := by decide +kernel
theorem kq0 : fpre ⟨⟨#[]⟩, ⟨#[]⟩, ⟨#[]⟩, ⟨#[117]⟩, ⟨#[97]⟩, ⟨#[]⟩, true⟩ = 0 := by decide +kernel
theorem ka0 : takes ⟨⟨#[]⟩, ⟨#[]⟩, ⟨#[]⟩, ⟨#[]⟩, ⟨#[]⟩, ⟨#[]⟩, false⟩ tY = true := by decide +kernel
theorem kb0 : takes ⟨⟨#[]⟩, ⟨#[]⟩, ⟨#[]⟩, ⟨#[117]⟩, ⟨#[97]⟩, ⟨#[]⟩, true⟩ tY = true := by decide +kernel
theorem kc0 : takes ⟨⟨#[]⟩, ⟨#[]⟩, ⟨#[]⟩, ⟨#[117]⟩, ⟨#[97]⟩, ⟨#[]⟩, true⟩ tB = false := by decide +kernel
theorem kd0 : smallL.filter (takes ⟨⟨#[]⟩, ⟨#[]⟩, ⟨#[]⟩, ⟨#[117]⟩, ⟨#[97]⟩, ⟨#[]⟩, true⟩) = [tA, tY, tC] := by decide +kernel
theorem kx0 : fchk ⟨⟨#[]⟩, ⟨#[]⟩, ⟨#[]⟩, ⟨#[117]⟩, ⟨#[97]⟩, ⟨#[]⟩, true⟩ = 0 := by decide +kernel
theorem ks0 (g c : Nat) (w : World) (hR : Row w (some ⟨g, 0, none⟩) smallL) (hc : 4 ≤ c) :
    Calls Try.prog 22 #[.slice (some ⟨g, 0, none⟩) 4 c, .agg #[.string ⟨#[]⟩, .string ⟨#[]⟩, .string ⟨#[]⟩, .string ⟨#[117]⟩, .string ⟨#[97]⟩, .string ⟨#[]⟩, .bool true]] w fun r w' => (∃ A, r = .returned (.tuple #[.slice A 3 3, .int .i64 0])) ∧ Below w.heap.size w w' := by
  refine (select_any ⟨⟨#[]⟩, ⟨#[]⟩, ⟨#[]⟩, ⟨#[117]⟩, ⟨#[97]⟩, ⟨#[]⟩, true⟩ (some ⟨g, 0, none⟩) smallL c w (.inr ⟨g, 0, rfl⟩) ⟨by decide, by decide, by decide, by decide, by decide, by decide⟩ hR hc (by decide) kx0 sm_isB).mono fun r w' h => ?_
  obtain ⟨A, h1, h2, h3, h4⟩ := h
  rw [kd0] at h1
  exact ⟨⟨A, h1⟩, h4⟩
theorem kf1 : fpar ⟨#[97, 58, 42, 35, 42]⟩ = (⟨⟨#[97]⟩, ⟨#[]⟩, ⟨#[]⟩, ⟨#[]⟩, ⟨#[]⟩, ⟨#[]⟩, false⟩, 0) := by decide +kernel
theorem kg1 : fpar (⟨#[97, 58, 42, 35, 42]⟩ ++ ⟨#[64, 117, 58, 97]⟩) = (⟨⟨#[97]⟩, ⟨#[]⟩, ⟨#[]⟩, ⟨#[117]⟩, ⟨#[97]⟩, ⟨#[]⟩, true⟩, 0) := by decide +kernel
theorem kp1 : fpre ⟨⟨#[97]⟩, ⟨#[]⟩, ⟨#[]⟩, ⟨#[]⟩, ⟨#[]⟩, ⟨#[]⟩, false⟩ = 1 := by decide +kernel
theorem kq1 : fpre ⟨⟨#[97]⟩, ⟨#[]⟩, ⟨#[]⟩, ⟨#[117]⟩, ⟨#[97]⟩, ⟨#[]⟩, true⟩ = 1 := by decide +kernel
theorem ka1 : takes ⟨⟨#[97]⟩, ⟨#[]⟩, ⟨#[]⟩, ⟨#[]⟩, ⟨#[]⟩, ⟨#[]⟩, false⟩ tY = true := by decide +kernel
theorem kb1 : takes ⟨⟨#[97]⟩, ⟨#[]⟩, ⟨#[]⟩, ⟨#[117]⟩, ⟨#[97]⟩, ⟨#[]⟩, true⟩ tY = true := by decide +kernel
theorem kc1 : takes ⟨⟨#[97]⟩, ⟨#[]⟩, ⟨#[]⟩, ⟨#[117]⟩, ⟨#[97]⟩, ⟨#[]⟩, true⟩ tB = false := by decide +kernel
theorem kd1 : smallL.filter (takes ⟨⟨#[97]⟩, ⟨#[]⟩, ⟨#[]⟩, ⟨#[117]⟩, ⟨#[97]⟩, ⟨#[]⟩, true⟩) = [tA, tY] := by decide +kernel
theorem kx1 : fchk ⟨⟨#[97]⟩, ⟨#[]⟩, ⟨#[]⟩, ⟨#[117]⟩, ⟨#[97]⟩, ⟨#[]⟩, true⟩ = 0 := by decide +kernel
theorem ks1 (g c : Nat) (w : World) (hR : Row w (some ⟨g, 0, none⟩) smallL) (hc : 4 ≤ c) :
    Calls Try.prog 22 #[.slice (some ⟨g, 0, none⟩) 4 c, .agg #[.string ⟨#[97]⟩, .string ⟨#[]⟩, .string ⟨#[]⟩, .string ⟨#[117]⟩, .string ⟨#[97]⟩, .string ⟨#[]⟩, .bool true]] w fun r w' => (∃ A, r = .returned (.tuple #[.slice A 2 2, .int .i64 0])) ∧ Below w.heap.size w w' := by
  refine (select_any ⟨⟨#[97]⟩, ⟨#[]⟩, ⟨#[]⟩, ⟨#[117]⟩, ⟨#[97]⟩, ⟨#[]⟩, true⟩ (some ⟨g, 0, none⟩) smallL c w (.inr ⟨g, 0, rfl⟩) ⟨by decide, by decide, by decide, by decide, by decide, by decide⟩ hR hc (by decide) kx1 sm_isB).mono fun r w' h => ?_
  obtain ⟨A, h1, h2, h3, h4⟩ := h
  rw [kd1] at h1
  exact ⟨⟨A, h1⟩, h4⟩
theorem kf2 : fpar ⟨#[42, 58, 121, 35, 42]⟩ = (⟨⟨#[]⟩, ⟨#[121]⟩, ⟨#[]⟩, ⟨#[]⟩, ⟨#[]⟩, ⟨#[]⟩, false⟩, 0) := by decide +kernel
theorem kg2 : fpar (⟨#[42, 58, 121, 35, 42]⟩ ++ ⟨#[64, 117, 58, 97]⟩) = (⟨⟨#[]⟩, ⟨#[121]⟩, ⟨#[]⟩, ⟨#[117]⟩, ⟨#[97]⟩, ⟨#[]⟩, true⟩, 0) := by decide +kernel
theorem kp2 : fpre ⟨⟨#[]⟩, ⟨#[121]⟩, ⟨#[]⟩, ⟨#[]⟩, ⟨#[]⟩, ⟨#[]⟩, false⟩ = 0 := by decide +kernel
theorem kq2 : fpre ⟨⟨#[]⟩, ⟨#[121]⟩, ⟨#[]⟩, ⟨#[117]⟩, ⟨#[97]⟩, ⟨#[]⟩, true⟩ = 0 := by decide +kernel
theorem ka2 : takes ⟨⟨#[]⟩, ⟨#[121]⟩, ⟨#[]⟩, ⟨#[]⟩, ⟨#[]⟩, ⟨#[]⟩, false⟩ tY = true := by decide +kernel
theorem kb2 : takes ⟨⟨#[]⟩, ⟨#[121]⟩, ⟨#[]⟩, ⟨#[117]⟩, ⟨#[97]⟩, ⟨#[]⟩, true⟩ tY = true := by decide +kernel
theorem kc2 : takes ⟨⟨#[]⟩, ⟨#[121]⟩, ⟨#[]⟩, ⟨#[117]⟩, ⟨#[97]⟩, ⟨#[]⟩, true⟩ tB = false := by decide +kernel
theorem kd2 : smallL.filter (takes ⟨⟨#[]⟩, ⟨#[121]⟩, ⟨#[]⟩, ⟨#[117]⟩, ⟨#[97]⟩, ⟨#[]⟩, true⟩) = [tY] := by decide +kernel
theorem kx2 : fchk ⟨⟨#[]⟩, ⟨#[121]⟩, ⟨#[]⟩, ⟨#[117]⟩, ⟨#[97]⟩, ⟨#[]⟩, true⟩ = 0 := by decide +kernel
theorem ks2 (g c : Nat) (w : World) (hR : Row w (some ⟨g, 0, none⟩) smallL) (hc : 4 ≤ c) :
    Calls Try.prog 22 #[.slice (some ⟨g, 0, none⟩) 4 c, .agg #[.string ⟨#[]⟩, .string ⟨#[121]⟩, .string ⟨#[]⟩, .string ⟨#[117]⟩, .string ⟨#[97]⟩, .string ⟨#[]⟩, .bool true]] w fun r w' => (∃ A, r = .returned (.tuple #[.slice A 1 1, .int .i64 0])) ∧ Below w.heap.size w w' := by
  refine (select_any ⟨⟨#[]⟩, ⟨#[121]⟩, ⟨#[]⟩, ⟨#[117]⟩, ⟨#[97]⟩, ⟨#[]⟩, true⟩ (some ⟨g, 0, none⟩) smallL c w (.inr ⟨g, 0, rfl⟩) ⟨by decide, by decide, by decide, by decide, by decide, by decide⟩ hR hc (by decide) kx2 sm_isB).mono fun r w' h => ?_
  obtain ⟨A, h1, h2, h3, h4⟩ := h
  rw [kd2] at h1
  exact ⟨⟨A, h1⟩, h4⟩
theorem kf3 : fpar ⟨#[97, 58, 121, 35, 42]⟩ = (⟨⟨#[97]⟩, ⟨#[121]⟩, ⟨#[]⟩, ⟨#[]⟩, ⟨#[]⟩, ⟨#[]⟩, false⟩, 0) := by decide +kernel
theorem kg3 : fpar (⟨#[97, 58, 121, 35, 42]⟩ ++ ⟨#[64, 117, 58, 97]⟩) = (⟨⟨#[97]⟩, ⟨#[121]⟩, ⟨#[]⟩, ⟨#[117]⟩, ⟨#[97]⟩, ⟨#[]⟩, true⟩, 0) := by decide +kernel
theorem kp3 : fpre ⟨⟨#[97]⟩, ⟨#[121]⟩, ⟨#[]⟩, ⟨#[]⟩, ⟨#[]⟩, ⟨#[]⟩, false⟩ = 2 := by decide +kernel
theorem kq3 : fpre ⟨⟨#[97]⟩, ⟨#[121]⟩, ⟨#[]⟩, ⟨#[117]⟩, ⟨#[97]⟩, ⟨#[]⟩, true⟩ = 2 := by decide +kernel
theorem ka3 : takes ⟨⟨#[97]⟩, ⟨#[121]⟩, ⟨#[]⟩, ⟨#[]⟩, ⟨#[]⟩, ⟨#[]⟩, false⟩ tY = true := by decide +kernel
theorem kb3 : takes ⟨⟨#[97]⟩, ⟨#[121]⟩, ⟨#[]⟩, ⟨#[117]⟩, ⟨#[97]⟩, ⟨#[]⟩, true⟩ tY = true := by decide +kernel
theorem kc3 : takes ⟨⟨#[97]⟩, ⟨#[121]⟩, ⟨#[]⟩, ⟨#[117]⟩, ⟨#[97]⟩, ⟨#[]⟩, true⟩ tB = false := by decide +kernel
theorem kd3 : smallL.filter (takes ⟨⟨#[97]⟩, ⟨#[121]⟩, ⟨#[]⟩, ⟨#[117]⟩, ⟨#[97]⟩, ⟨#[]⟩, true⟩) = [tY] := by decide +kernel
theorem kx3 : fchk ⟨⟨#[97]⟩, ⟨#[121]⟩, ⟨#[]⟩, ⟨#[117]⟩, ⟨#[97]⟩, ⟨#[]⟩, true⟩ = 0 := by decide +kernel
theorem ks3 (g c : Nat) (w : World) (hR : Row w (some ⟨g, 0, none⟩) smallL) (hc : 4 ≤ c) :
    Calls Try.prog 22 #[.slice (some ⟨g, 0, none⟩) 4 c, .agg #[.string ⟨#[97]⟩, .string ⟨#[121]⟩, .string ⟨#[]⟩, .string ⟨#[117]⟩, .string ⟨#[97]⟩, .string ⟨#[]⟩, .bool true]] w fun r w' => (∃ A, r = .returned (.tuple #[.slice A 1 1, .int .i64 0])) ∧ Below w.heap.size w w' := by
  refine (select_any ⟨⟨#[97]⟩, ⟨#[121]⟩, ⟨#[]⟩, ⟨#[117]⟩, ⟨#[97]⟩, ⟨#[]⟩, true⟩ (some ⟨g, 0, none⟩) smallL c w (.inr ⟨g, 0, rfl⟩) ⟨by decide, by decide, by decide, by decide, by decide, by decide⟩ hR hc (by decide) kx3 sm_isB).mono fun r w' h => ?_
  obtain ⟨A, h1, h2, h3, h4⟩ := h
  rw [kd3] at h1
  exact ⟨⟨A, h1⟩, h4⟩
theorem kf4 : fpar ⟨#[42, 58, 42, 35, 115]⟩ = (⟨⟨#[]⟩, ⟨#[]⟩, ⟨#[115]⟩, ⟨#[]⟩, ⟨#[]⟩, ⟨#[]⟩, false⟩, 0) := by decide +kernel
theorem kg4 : fpar (⟨#[42, 58, 42, 35, 115]⟩ ++ ⟨#[64, 117, 58, 97]⟩) = (⟨⟨#[]⟩, ⟨#[]⟩, ⟨#[115]⟩, ⟨#[117]⟩, ⟨#[97]⟩, ⟨#[]⟩, true⟩, 0) := by decide +kernel
theorem kp4 : fpre ⟨⟨#[]⟩, ⟨#[]⟩, ⟨#[115]⟩, ⟨#[]⟩, ⟨#[]⟩, ⟨#[]⟩, false⟩ = 0 := by decide +kernel
theorem kq4 : fpre ⟨⟨#[]⟩, ⟨#[]⟩, ⟨#[115]⟩, ⟨#[117]⟩, ⟨#[97]⟩, ⟨#[]⟩, true⟩ = 0 := by decide +kernel
theorem ka4 : takes ⟨⟨#[]⟩, ⟨#[]⟩, ⟨#[115]⟩, ⟨#[]⟩, ⟨#[]⟩, ⟨#[]⟩, false⟩ tY = true := by decide +kernel
theorem kb4 : takes ⟨⟨#[]⟩, ⟨#[]⟩, ⟨#[115]⟩, ⟨#[117]⟩, ⟨#[97]⟩, ⟨#[]⟩, true⟩ tY = true := by decide +kernel
theorem kc4 : takes ⟨⟨#[]⟩, ⟨#[]⟩, ⟨#[115]⟩, ⟨#[117]⟩, ⟨#[97]⟩, ⟨#[]⟩, true⟩ tB = false := by decide +kernel
theorem kd4 : smallL.filter (takes ⟨⟨#[]⟩, ⟨#[]⟩, ⟨#[115]⟩, ⟨#[117]⟩, ⟨#[97]⟩, ⟨#[]⟩, true⟩) = [tY] := by decide +kernel
theorem kx4 : fchk ⟨⟨#[]⟩, ⟨#[]⟩, ⟨#[115]⟩, ⟨#[117]⟩, ⟨#[97]⟩, ⟨#[]⟩, true⟩ = 0 := by decide +kernel
theorem ks4 (g c : Nat) (w : World) (hR : Row w (some ⟨g, 0, none⟩) smallL) (hc : 4 ≤ c) :
    Calls Try.prog 22 #[.slice (some ⟨g, 0, none⟩) 4 c, .agg #[.string ⟨#[]⟩, .string ⟨#[]⟩, .string ⟨#[115]⟩, .string ⟨#[117]⟩, .string ⟨#[97]⟩, .string ⟨#[]⟩, .bool true]] w fun r w' => (∃ A, r = .returned (.tuple #[.slice A 1 1, .int .i64 0])) ∧ Below w.heap.size w w' := by
  refine (select_any ⟨⟨#[]⟩, ⟨#[]⟩, ⟨#[115]⟩, ⟨#[117]⟩, ⟨#[97]⟩, ⟨#[]⟩, true⟩ (some ⟨g, 0, none⟩) smallL c w (.inr ⟨g, 0, rfl⟩) ⟨by decide, by decide, by decide, by decide, by decide, by decide⟩ hR hc (by decide) kx4 sm_isB).mono fun r w' h => ?_
  obtain ⟨A, h1, h2, h3, h4⟩ := h
  rw [kd4] at h1
  exact ⟨⟨A, h1⟩, h4⟩
theorem kf5 : fpar ⟨#[97, 58, 42, 35, 115]⟩ = (⟨⟨#[97]⟩, ⟨#[]⟩, ⟨#[115]⟩, ⟨#[]⟩, ⟨#[]⟩, ⟨#[]⟩, false⟩, 0) := by decide +kernel
theorem kg5 : fpar (⟨#[97, 58, 42, 35, 115]⟩ ++ ⟨#[64, 117, 58, 97]⟩) = (⟨⟨#[97]⟩, ⟨#[]⟩, ⟨#[115]⟩, ⟨#[117]⟩, ⟨#[97]⟩, ⟨#[]⟩, true⟩, 0) := by decide +kernel
theorem kp5 : fpre ⟨⟨#[97]⟩, ⟨#[]⟩, ⟨#[115]⟩, ⟨#[]⟩, ⟨#[]⟩, ⟨#[]⟩, false⟩ = 1 := by decide +kernel
theorem kq5 : fpre ⟨⟨#[97]⟩, ⟨#[]⟩, ⟨#[115]⟩, ⟨#[117]⟩, ⟨#[97]⟩, ⟨#[]⟩, true⟩ = 1 := by decide +kernel
theorem ka5 : takes ⟨⟨#[97]⟩, ⟨#[]⟩, ⟨#[115]⟩, ⟨#[]⟩, ⟨#[]⟩, ⟨#[]⟩, false⟩ tY = true := by decide +kernel
theorem kb5 : takes ⟨⟨#[97]⟩, ⟨#[]⟩, ⟨#[115]⟩, ⟨#[117]⟩, ⟨#[97]⟩, ⟨#[]⟩, true⟩ tY = true := by decide +kernel
theorem kc5 : takes ⟨⟨#[97]⟩, ⟨#[]⟩, ⟨#[115]⟩, ⟨#[117]⟩, ⟨#[97]⟩, ⟨#[]⟩, true⟩ tB = false := by decide +kernel
theorem kd5 : smallL.filter (takes ⟨⟨#[97]⟩, ⟨#[]⟩, ⟨#[115]⟩, ⟨#[117]⟩, ⟨#[97]⟩, ⟨#[]⟩, true⟩) = [tY] := by decide +kernel
theorem kx5 : fchk ⟨⟨#[97]⟩, ⟨#[]⟩, ⟨#[115]⟩, ⟨#[117]⟩, ⟨#[97]⟩, ⟨#[]⟩, true⟩ = 0 := by decide +kernel
theorem ks5 (g c : Nat) (w : World) (hR : Row w (some ⟨g, 0, none⟩) smallL) (hc : 4 ≤ c) :
    Calls Try.prog 22 #[.slice (some ⟨g, 0, none⟩) 4 c, .agg #[.string ⟨#[97]⟩, .string ⟨#[]⟩, .string ⟨#[115]⟩, .string ⟨#[117]⟩, .string ⟨#[97]⟩, .string ⟨#[]⟩, .bool true]] w fun r w' => (∃ A, r = .returned (.tuple #[.slice A 1 1, .int .i64 0])) ∧ Below w.heap.size w w' := by
  refine (select_any ⟨⟨#[97]⟩, ⟨#[]⟩, ⟨#[115]⟩, ⟨#[117]⟩, ⟨#[97]⟩, ⟨#[]⟩, true⟩ (some ⟨g, 0, none⟩) smallL c w (.inr ⟨g, 0, rfl⟩) ⟨by decide, by decide, by decide, by decide, by decide, by decide⟩ hR hc (by decide) kx5 sm_isB).mono fun r w' h => ?_
  obtain ⟨A, h1, h2, h3, h4⟩ := h
  rw [kd5] at h1
  exact ⟨⟨A, h1⟩, h4⟩
theorem kf6 : fpar ⟨#[42, 58, 121, 35, 115]⟩ = (⟨⟨#[]⟩, ⟨#[121]⟩, ⟨#[115]⟩, ⟨#[]⟩, ⟨#[]⟩, ⟨#[]⟩, false⟩, 0) := by decide +kernel
theorem kg6 : fpar (⟨#[42, 58, 121, 35, 115]⟩ ++ ⟨#[64, 117, 58, 97]⟩) = (⟨⟨#[]⟩, ⟨#[121]⟩, ⟨#[115]⟩, ⟨#[117]⟩, ⟨#[97]⟩, ⟨#[]⟩, true⟩, 0) := by decide +kernel
theorem kp6 : fpre ⟨⟨#[]⟩, ⟨#[121]⟩, ⟨#[115]⟩, ⟨#[]⟩, ⟨#[]⟩, ⟨#[]⟩, false⟩ = 0 := by decide +kernel
theorem kq6 : fpre ⟨⟨#[]⟩, ⟨#[121]⟩, ⟨#[115]⟩, ⟨#[117]⟩, ⟨#[97]⟩, ⟨#[]⟩, true⟩ = 0 := by decide +kernel
theorem ka6 : takes ⟨⟨#[]⟩, ⟨#[121]⟩, ⟨#[115]⟩, ⟨#[]⟩, ⟨#[]⟩, ⟨#[]⟩, false⟩ tY = true := by decide +kernel
theorem kb6 : takes ⟨⟨#[]⟩, ⟨#[121]⟩, ⟨#[115]⟩, ⟨#[117]⟩, ⟨#[97]⟩, ⟨#[]⟩, true⟩ tY = true := by decide +kernel
theorem kc6 : takes ⟨⟨#[]⟩, ⟨#[121]⟩, ⟨#[115]⟩, ⟨#[117]⟩, ⟨#[97]⟩, ⟨#[]⟩, true⟩ tB = false := by decide +kernel
theorem kd6 : smallL.filter (takes ⟨⟨#[]⟩, ⟨#[121]⟩, ⟨#[115]⟩, ⟨#[117]⟩, ⟨#[97]⟩, ⟨#[]⟩, true⟩) = [tY] := by decide +kernel
theorem kx6 : fchk ⟨⟨#[]⟩, ⟨#[121]⟩, ⟨#[115]⟩, ⟨#[117]⟩, ⟨#[97]⟩, ⟨#[]⟩, true⟩ = 0 := by decide +kernel
theorem ks6 (g c : Nat) (w : World) (hR : Row w (some ⟨g, 0, none⟩) smallL) (hc : 4 ≤ c) :
    Calls Try.prog 22 #[.slice (some ⟨g, 0, none⟩) 4 c, .agg #[.string ⟨#[]⟩, .string ⟨#[121]⟩, .string ⟨#[115]⟩, .string ⟨#[117]⟩, .string ⟨#[97]⟩, .string ⟨#[]⟩, .bool true]] w fun r w' => (∃ A, r = .returned (.tuple #[.slice A 1 1, .int .i64 0])) ∧ Below w.heap.size w w' := by
  refine (select_any ⟨⟨#[]⟩, ⟨#[121]⟩, ⟨#[115]⟩, ⟨#[117]⟩, ⟨#[97]⟩, ⟨#[]⟩, true⟩ (some ⟨g, 0, none⟩) smallL c w (.inr ⟨g, 0, rfl⟩) ⟨by decide, by decide, by decide, by decide, by decide, by decide⟩ hR hc (by decide) kx6 sm_isB).mono fun r w' h => ?_
  obtain ⟨A, h1, h2, h3, h4⟩ := h
  rw [kd6] at h1
  exact ⟨⟨A, h1⟩, h4⟩
theorem kf7 : fpar ⟨#[97, 58, 121, 35, 115]⟩ = (⟨⟨#[97]⟩, ⟨#[121]⟩, ⟨#[115]⟩, ⟨#[]⟩, ⟨#[]⟩, ⟨#[]⟩, false⟩, 0) := by decide +kernel
theorem kg7 : fpar (⟨#[97, 58, 121, 35, 115]⟩ ++ ⟨#[64, 117, 58, 97]⟩) = (⟨⟨#[97]⟩, ⟨#[121]⟩, ⟨#[115]⟩, ⟨#[117]⟩, ⟨#[97]⟩, ⟨#[]⟩, true⟩, 0) := by decide +kernel
theorem kp7 : fpre ⟨⟨#[97]⟩, ⟨#[121]⟩, ⟨#[115]⟩, ⟨#[]⟩, ⟨#[]⟩, ⟨#[]⟩, false⟩ = 3 := by decide +kernel
theorem kq7 : fpre ⟨⟨#[97]⟩, ⟨#[121]⟩, ⟨#[115]⟩, ⟨#[117]⟩, ⟨#[97]⟩, ⟨#[]⟩, true⟩ = 4 := by decide +kernel
theorem ka7 : takes ⟨⟨#[97]⟩, ⟨#[121]⟩, ⟨#[115]⟩, ⟨#[]⟩, ⟨#[]⟩, ⟨#[]⟩, false⟩ tY = true := by decide +kernel
theorem kb7 : takes ⟨⟨#[97]⟩, ⟨#[121]⟩, ⟨#[115]⟩, ⟨#[117]⟩, ⟨#[97]⟩, ⟨#[]⟩, true⟩ tY = true := by decide +kernel
theorem kc7 : takes ⟨⟨#[97]⟩, ⟨#[121]⟩, ⟨#[115]⟩, ⟨#[117]⟩, ⟨#[97]⟩, ⟨#[]⟩, true⟩ tB = false := by decide +kernel
theorem kd7 : smallL.filter (takes ⟨⟨#[97]⟩, ⟨#[121]⟩, ⟨#[115]⟩, ⟨#[117]⟩, ⟨#[97]⟩, ⟨#[]⟩, true⟩) = [tY] := by decide +kernel
theorem kx7 : fchk ⟨⟨#[97]⟩, ⟨#[121]⟩, ⟨#[115]⟩, ⟨#[117]⟩, ⟨#[97]⟩, ⟨#[]⟩, true⟩ = 0 := by decide +kernel
theorem ks7 (g c : Nat) (w : World) (hR : Row w (some ⟨g, 0, none⟩) smallL) (hc : 4 ≤ c) :
    Calls Try.prog 22 #[.slice (some ⟨g, 0, none⟩) 4 c, .agg #[.string ⟨#[97]⟩, .string ⟨#[121]⟩, .string ⟨#[115]⟩, .string ⟨#[117]⟩, .string ⟨#[97]⟩, .string ⟨#[]⟩, .bool true]] w fun r w' => (∃ A, r = .returned (.tuple #[.slice A 1 1, .int .i64 0])) ∧ Below w.heap.size w w' := by
  refine (select_any ⟨⟨#[97]⟩, ⟨#[121]⟩, ⟨#[115]⟩, ⟨#[117]⟩, ⟨#[97]⟩, ⟨#[]⟩, true⟩ (some ⟨g, 0, none⟩) smallL c w (.inr ⟨g, 0, rfl⟩) ⟨by decide, by decide, by decide, by decide, by decide, by decide⟩ hR hc (by decide) kx7 sm_isB).mono fun r w' h => ?_
  obtain ⟨A, h1, h2, h3, h4⟩ := h
  rw [kd7] at h1
  exact ⟨⟨A, h1⟩, h4⟩
theorem kt_a0 (w : World) : Calls Try.prog 25 #[.agg #[.string ⟨#[]⟩, .string ⟨#[]⟩, .string ⟨#[]⟩, .string ⟨#[]⟩, .string ⟨#[]⟩, .string ⟨#[]⟩, .bool false], .agg #[.string ⟨#[97]⟩, .string ⟨#[121]⟩, .string ⟨#[115]⟩, .string ⟨#[117]⟩, .string ⟨#[97]⟩, .string ⟨#[]⟩]] w fun r w' => r = .returned (.bool true) ∧ Below w.heap.size w w' := by
  refine (ftakes ⟨⟨#[]⟩, ⟨#[]⟩, ⟨#[]⟩, ⟨#[]⟩, ⟨#[]⟩, ⟨#[]⟩, false⟩ tY w).mono fun r w' h => ⟨?_, h.2.toBelow⟩
  rw [h.1, ka0]
theorem kt_b0 (w : World) : Calls Try.prog 25 #[.agg #[.string ⟨#[]⟩, .string ⟨#[]⟩, .string ⟨#[]⟩, .string ⟨#[117]⟩, .string ⟨#[97]⟩, .string ⟨#[]⟩, .bool true], .agg #[.string ⟨#[97]⟩, .string ⟨#[121]⟩, .string ⟨#[115]⟩, .string ⟨#[117]⟩, .string ⟨#[97]⟩, .string ⟨#[]⟩]] w fun r w' => r = .returned (.bool true) ∧ Below w.heap.size w w' := by
  refine (ftakes ⟨⟨#[]⟩, ⟨#[]⟩, ⟨#[]⟩, ⟨#[117]⟩, ⟨#[97]⟩, ⟨#[]⟩, true⟩ tY w).mono fun r w' h => ⟨?_, h.2.toBelow⟩
  rw [h.1, kb0]
theorem kt_c0 (w : World) : Calls Try.prog 25 #[.agg #[.string ⟨#[]⟩, .string ⟨#[]⟩, .string ⟨#[]⟩, .string ⟨#[117]⟩, .string ⟨#[97]⟩, .string ⟨#[]⟩, .bool true], .agg #[.string ⟨#[97]⟩, .string ⟨#[120]⟩, .string ⟨#[114]⟩, .string ⟨#[117]⟩, .string ⟨#[98]⟩, .string ⟨#[]⟩]] w fun r w' => r = .returned (.bool false) ∧ Below w.heap.size w w' := by
  refine (ftakes ⟨⟨#[]⟩, ⟨#[]⟩, ⟨#[]⟩, ⟨#[117]⟩, ⟨#[97]⟩, ⟨#[]⟩, true⟩ tB w).mono fun r w' h => ⟨?_, h.2.toBelow⟩
  rw [h.1, kc0]
theorem kt_a1 (w : World) : Calls Try.prog 25 #[.agg #[.string ⟨#[97]⟩, .string ⟨#[]⟩, .string ⟨#[]⟩, .string ⟨#[]⟩, .string ⟨#[]⟩, .string ⟨#[]⟩, .bool false], .agg #[.string ⟨#[97]⟩, .string ⟨#[121]⟩, .string ⟨#[115]⟩, .string ⟨#[117]⟩, .string ⟨#[97]⟩, .string ⟨#[]⟩]] w fun r w' => r = .returned (.bool true) ∧ Below w.heap.size w w' := by
  refine (ftakes ⟨⟨#[97]⟩, ⟨#[]⟩, ⟨#[]⟩, ⟨#[]⟩, ⟨#[]⟩, ⟨#[]⟩, false⟩ tY w).mono fun r w' h => ⟨?_, h.2.toBelow⟩
  rw [h.1, ka1]
theorem kt_b1 (w : World) : Calls Try.prog 25 #[.agg #[.string ⟨#[97]⟩, .string ⟨#[]⟩, .string ⟨#[]⟩, .string ⟨#[117]⟩, .string ⟨#[97]⟩, .string ⟨#[]⟩, .bool true], .agg #[.string ⟨#[97]⟩, .string ⟨#[121]⟩, .string ⟨#[115]⟩, .string ⟨#[117]⟩, .string ⟨#[97]⟩, .string ⟨#[]⟩]] w fun r w' => r = .returned (.bool true) ∧ Below w.heap.size w w' := by
  refine (ftakes ⟨⟨#[97]⟩, ⟨#[]⟩, ⟨#[]⟩, ⟨#[117]⟩, ⟨#[97]⟩, ⟨#[]⟩, true⟩ tY w).mono fun r w' h => ⟨?_, h.2.toBelow⟩
  rw [h.1, kb1]
theorem kt_c1 (w : World) : Calls Try.prog 25 #[.agg #[.string ⟨#[97]⟩, .string ⟨#[]⟩, .string ⟨#[]⟩, .string ⟨#[117]⟩, .string ⟨#[97]⟩, .string ⟨#[]⟩, .bool true], .agg #[.string ⟨#[97]⟩, .string ⟨#[120]⟩, .string ⟨#[114]⟩, .string ⟨#[117]⟩, .string ⟨#[98]⟩, .string ⟨#[]⟩]] w fun r w' => r = .returned (.bool false) ∧ Below w.heap.size w w' := by
  refine (ftakes ⟨⟨#[97]⟩, ⟨#[]⟩, ⟨#[]⟩, ⟨#[117]⟩, ⟨#[97]⟩, ⟨#[]⟩, true⟩ tB w).mono fun r w' h => ⟨?_, h.2.toBelow⟩
  rw [h.1, kc1]
theorem kt_a2 (w : World) : Calls Try.prog 25 #[.agg #[.string ⟨#[]⟩, .string ⟨#[121]⟩, .string ⟨#[]⟩, .string ⟨#[]⟩, .string ⟨#[]⟩, .string ⟨#[]⟩, .bool false], .agg #[.string ⟨#[97]⟩, .string ⟨#[121]⟩, .string ⟨#[115]⟩, .string ⟨#[117]⟩, .string ⟨#[97]⟩, .string ⟨#[]⟩]] w fun r w' => r = .returned (.bool true) ∧ Below w.heap.size w w' := by
  refine (ftakes ⟨⟨#[]⟩, ⟨#[121]⟩, ⟨#[]⟩, ⟨#[]⟩, ⟨#[]⟩, ⟨#[]⟩, false⟩ tY w).mono fun r w' h => ⟨?_, h.2.toBelow⟩
  rw [h.1, ka2]
theorem kt_b2 (w : World) : Calls Try.prog 25 #[.agg #[.string ⟨#[]⟩, .string ⟨#[121]⟩, .string ⟨#[]⟩, .string ⟨#[117]⟩, .string ⟨#[97]⟩, .string ⟨#[]⟩, .bool true], .agg #[.string ⟨#[97]⟩, .string ⟨#[121]⟩, .string ⟨#[115]⟩, .string ⟨#[117]⟩, .string ⟨#[97]⟩, .string ⟨#[]⟩]] w fun r w' => r = .returned (.bool true) ∧ Below w.heap.size w w' := by
  refine (ftakes ⟨⟨#[]⟩, ⟨#[121]⟩, ⟨#[]⟩, ⟨#[117]⟩, ⟨#[97]⟩, ⟨#[]⟩, true⟩ tY w).mono fun r w' h => ⟨?_, h.2.toBelow⟩
  rw [h.1, kb2]
theorem kt_c2 (w : World) : Calls Try.prog 25 #[.agg #[.string ⟨#[]⟩, .string ⟨#[121]⟩, .string ⟨#[]⟩, .string ⟨#[117]⟩, .string ⟨#[97]⟩, .string ⟨#[]⟩, .bool true], .agg #[.string ⟨#[97]⟩, .string ⟨#[120]⟩, .string ⟨#[114]⟩, .string ⟨#[117]⟩, .string ⟨#[98]⟩, .string ⟨#[]⟩]] w fun r w' => r = .returned (.bool false) ∧ Below w.heap.size w w' := by
  refine (ftakes ⟨⟨#[]⟩, ⟨#[121]⟩, ⟨#[]⟩, ⟨#[117]⟩, ⟨#[97]⟩, ⟨#[]⟩, true⟩ tB w).mono fun r w' h => ⟨?_, h.2.toBelow⟩
  rw [h.1, kc2]
theorem kt_a3 (w : World) : Calls Try.prog 25 #[.agg #[.string ⟨#[97]⟩, .string ⟨#[121]⟩, .string ⟨#[]⟩, .string ⟨#[]⟩, .string ⟨#[]⟩, .string ⟨#[]⟩, .bool false], .agg #[.string ⟨#[97]⟩, .string ⟨#[121]⟩, .string ⟨#[115]⟩, .string ⟨#[117]⟩, .string ⟨#[97]⟩, .string ⟨#[]⟩]] w fun r w' => r = .returned (.bool true) ∧ Below w.heap.size w w' := by
  refine (ftakes ⟨⟨#[97]⟩, ⟨#[121]⟩, ⟨#[]⟩, ⟨#[]⟩, ⟨#[]⟩, ⟨#[]⟩, false⟩ tY w).mono fun r w' h => ⟨?_, h.2.toBelow⟩
  rw [h.1, ka3]
theorem kt_b3 (w : World) : Calls Try.prog 25 #[.agg #[.string ⟨#[97]⟩, .string ⟨#[121]⟩, .string ⟨#[]⟩, .string ⟨#[117]⟩, .string ⟨#[97]⟩, .string ⟨#[]⟩, .bool true], .agg #[.string ⟨#[97]⟩, .string ⟨#[121]⟩, .string ⟨#[115]⟩, .string ⟨#[117]⟩, .string ⟨#[97]⟩, .string ⟨#[]⟩]] w fun r w' => r = .returned (.bool true) ∧ Below w.heap.size w w' := by
  refine (ftakes ⟨⟨#[97]⟩, ⟨#[121]⟩, ⟨#[]⟩, ⟨#[117]⟩, ⟨#[97]⟩, ⟨#[]⟩, true⟩ tY w).mono fun r w' h => ⟨?_, h.2.toBelow⟩
  rw [h.1, kb3]
theorem kt_c3 (w : World) : Calls Try.prog 25 #[.agg #[.string ⟨#[97]⟩, .string ⟨#[121]⟩, .string ⟨#[]⟩, .string ⟨#[117]⟩, .string ⟨#[97]⟩, .string ⟨#[]⟩, .bool true], .agg #[.string ⟨#[97]⟩, .string ⟨#[120]⟩, .string ⟨#[114]⟩, .string ⟨#[117]⟩, .string ⟨#[98]⟩, .string ⟨#[]⟩]] w fun r w' => r = .returned (.bool false) ∧ Below w.heap.size w w' := by
  refine (ftakes ⟨⟨#[97]⟩, ⟨#[121]⟩, ⟨#[]⟩, ⟨#[117]⟩, ⟨#[97]⟩, ⟨#[]⟩, true⟩ tB w).mono fun r w' h => ⟨?_, h.2.toBelow⟩
  rw [h.1, kc3]
theorem kt_a4 (w : World) : Calls Try.prog 25 #[.agg #[.string ⟨#[]⟩, .string ⟨#[]⟩, .string ⟨#[115]⟩, .string ⟨#[]⟩, .string ⟨#[]⟩, .string ⟨#[]⟩, .bool false], .agg #[.string ⟨#[97]⟩, .string ⟨#[121]⟩, .string ⟨#[115]⟩, .string ⟨#[117]⟩, .string ⟨#[97]⟩, .string ⟨#[]⟩]] w fun r w' => r = .returned (.bool true) ∧ Below w.heap.size w w' := by
  refine (ftakes ⟨⟨#[]⟩, ⟨#[]⟩, ⟨#[115]⟩, ⟨#[]⟩, ⟨#[]⟩, ⟨#[]⟩, false⟩ tY w).mono fun r w' h => ⟨?_, h.2.toBelow⟩
  rw [h.1, ka4]
theorem kt_b4 (w : World) : Calls Try.prog 25 #[.agg #[.string ⟨#[]⟩, .string ⟨#[]⟩, .string ⟨#[115]⟩, .string ⟨#[117]⟩, .string ⟨#[97]⟩, .string ⟨#[]⟩, .bool true], .agg #[.string ⟨#[97]⟩, .string ⟨#[121]⟩, .string ⟨#[115]⟩, .string ⟨#[117]⟩, .string ⟨#[97]⟩, .string ⟨#[]⟩]] w fun r w' => r = .returned (.bool true) ∧ Below w.heap.size w w' := by
  refine (ftakes ⟨⟨#[]⟩, ⟨#[]⟩, ⟨#[115]⟩, ⟨#[117]⟩, ⟨#[97]⟩, ⟨#[]⟩, true⟩ tY w).mono fun r w' h => ⟨?_, h.2.toBelow⟩
  rw [h.1, kb4]
theorem kt_c4 (w : World) : Calls Try.prog 25 #[.agg #[.string ⟨#[]⟩, .string ⟨#[]⟩, .string ⟨#[115]⟩, .string ⟨#[117]⟩, .string ⟨#[97]⟩, .string ⟨#[]⟩, .bool true], .agg #[.string ⟨#[97]⟩, .string ⟨#[120]⟩, .string ⟨#[114]⟩, .string ⟨#[117]⟩, .string ⟨#[98]⟩, .string ⟨#[]⟩]] w fun r w' => r = .returned (.bool false) ∧ Below w.heap.size w w' := by
  refine (ftakes ⟨⟨#[]⟩, ⟨#[]⟩, ⟨#[115]⟩, ⟨#[117]⟩, ⟨#[97]⟩, ⟨#[]⟩, true⟩ tB w).mono fun r w' h => ⟨?_, h.2.toBelow⟩
  rw [h.1, kc4]
theorem kt_a5 (w : World) : Calls Try.prog 25 #[.agg #[.string ⟨#[97]⟩, .string ⟨#[]⟩, .string ⟨#[115]⟩, .string ⟨#[]⟩, .string ⟨#[]⟩, .string ⟨#[]⟩, .bool false], .agg #[.string ⟨#[97]⟩, .string ⟨#[121]⟩, .string ⟨#[115]⟩, .string ⟨#[117]⟩, .string ⟨#[97]⟩, .string ⟨#[]⟩]] w fun r w' => r = .returned (.bool true) ∧ Below w.heap.size w w' := by
  refine (ftakes ⟨⟨#[97]⟩, ⟨#[]⟩, ⟨#[115]⟩, ⟨#[]⟩, ⟨#[]⟩, ⟨#[]⟩, false⟩ tY w).mono fun r w' h => ⟨?_, h.2.toBelow⟩
  rw [h.1, ka5]
theorem kt_b5 (w : World) : Calls Try.prog 25 #[.agg #[.string ⟨#[97]⟩, .string ⟨#[]⟩, .string ⟨#[115]⟩, .string ⟨#[117]⟩, .string ⟨#[97]⟩, .string ⟨#[]⟩, .bool true], .agg #[.string ⟨#[97]⟩, .string ⟨#[121]⟩, .string ⟨#[115]⟩, .string ⟨#[117]⟩, .string ⟨#[97]⟩, .string ⟨#[]⟩]] w fun r w' => r = .returned (.bool true) ∧ Below w.heap.size w w' := by
  refine (ftakes ⟨⟨#[97]⟩, ⟨#[]⟩, ⟨#[115]⟩, ⟨#[117]⟩, ⟨#[97]⟩, ⟨#[]⟩, true⟩ tY w).mono fun r w' h => ⟨?_, h.2.toBelow⟩
  rw [h.1, kb5]
theorem kt_c5 (w : World) : Calls Try.prog 25 #[.agg #[.string ⟨#[97]⟩, .string ⟨#[]⟩, .string ⟨#[115]⟩, .string ⟨#[117]⟩, .string ⟨#[97]⟩, .string ⟨#[]⟩, .bool true], .agg #[.string ⟨#[97]⟩, .string ⟨#[120]⟩, .string ⟨#[114]⟩, .string ⟨#[117]⟩, .string ⟨#[98]⟩, .string ⟨#[]⟩]] w fun r w' => r = .returned (.bool false) ∧ Below w.heap.size w w' := by
  refine (ftakes ⟨⟨#[97]⟩, ⟨#[]⟩, ⟨#[115]⟩, ⟨#[117]⟩, ⟨#[97]⟩, ⟨#[]⟩, true⟩ tB w).mono fun r w' h => ⟨?_, h.2.toBelow⟩
  rw [h.1, kc5]
theorem kt_a6 (w : World) : Calls Try.prog 25 #[.agg #[.string ⟨#[]⟩, .string ⟨#[121]⟩, .string ⟨#[115]⟩, .string ⟨#[]⟩, .string ⟨#[]⟩, .string ⟨#[]⟩, .bool false], .agg #[.string ⟨#[97]⟩, .string ⟨#[121]⟩, .string ⟨#[115]⟩, .string ⟨#[117]⟩, .string ⟨#[97]⟩, .string ⟨#[]⟩]] w fun r w' => r = .returned (.bool true) ∧ Below w.heap.size w w' := by
  refine (ftakes ⟨⟨#[]⟩, ⟨#[121]⟩, ⟨#[115]⟩, ⟨#[]⟩, ⟨#[]⟩, ⟨#[]⟩, false⟩ tY w).mono fun r w' h => ⟨?_, h.2.toBelow⟩
  rw [h.1, ka6]
theorem kt_b6 (w : World) : Calls Try.prog 25 #[.agg #[.string ⟨#[]⟩, .string ⟨#[121]⟩, .string ⟨#[115]⟩, .string ⟨#[117]⟩, .string ⟨#[97]⟩, .string ⟨#[]⟩, .bool true], .agg #[.string ⟨#[97]⟩, .string ⟨#[121]⟩, .string ⟨#[115]⟩, .string ⟨#[117]⟩, .string ⟨#[97]⟩, .string ⟨#[]⟩]] w fun r w' => r = .returned (.bool true) ∧ Below w.heap.size w w' := by
  refine (ftakes ⟨⟨#[]⟩, ⟨#[121]⟩, ⟨#[115]⟩, ⟨#[117]⟩, ⟨#[97]⟩, ⟨#[]⟩, true⟩ tY w).mono fun r w' h => ⟨?_, h.2.toBelow⟩
  rw [h.1, kb6]
theorem kt_c6 (w : World) : Calls Try.prog 25 #[.agg #[.string ⟨#[]⟩, .string ⟨#[121]⟩, .string ⟨#[115]⟩, .string ⟨#[117]⟩, .string ⟨#[97]⟩, .string ⟨#[]⟩, .bool true], .agg #[.string ⟨#[97]⟩, .string ⟨#[120]⟩, .string ⟨#[114]⟩, .string ⟨#[117]⟩, .string ⟨#[98]⟩, .string ⟨#[]⟩]] w fun r w' => r = .returned (.bool false) ∧ Below w.heap.size w w' := by
  refine (ftakes ⟨⟨#[]⟩, ⟨#[121]⟩, ⟨#[115]⟩, ⟨#[117]⟩, ⟨#[97]⟩, ⟨#[]⟩, true⟩ tB w).mono fun r w' h => ⟨?_, h.2.toBelow⟩
  rw [h.1, kc6]
theorem kt_a7 (w : World) : Calls Try.prog 25 #[.agg #[.string ⟨#[97]⟩, .string ⟨#[121]⟩, .string ⟨#[115]⟩, .string ⟨#[]⟩, .string ⟨#[]⟩, .string ⟨#[]⟩, .bool false], .agg #[.string ⟨#[97]⟩, .string ⟨#[121]⟩, .string ⟨#[115]⟩, .string ⟨#[117]⟩, .string ⟨#[97]⟩, .string ⟨#[]⟩]] w fun r w' => r = .returned (.bool true) ∧ Below w.heap.size w w' := by
  refine (ftakes ⟨⟨#[97]⟩, ⟨#[121]⟩, ⟨#[115]⟩, ⟨#[]⟩, ⟨#[]⟩, ⟨#[]⟩, false⟩ tY w).mono fun r w' h => ⟨?_, h.2.toBelow⟩
  rw [h.1, ka7]
theorem kt_b7 (w : World) : Calls Try.prog 25 #[.agg #[.string ⟨#[97]⟩, .string ⟨#[121]⟩, .string ⟨#[115]⟩, .string ⟨#[117]⟩, .string ⟨#[97]⟩, .string ⟨#[]⟩, .bool true], .agg #[.string ⟨#[97]⟩, .string ⟨#[121]⟩, .string ⟨#[115]⟩, .string ⟨#[117]⟩, .string ⟨#[97]⟩, .string ⟨#[]⟩]] w fun r w' => r = .returned (.bool true) ∧ Below w.heap.size w w' := by
  refine (ftakes ⟨⟨#[97]⟩, ⟨#[121]⟩, ⟨#[115]⟩, ⟨#[117]⟩, ⟨#[97]⟩, ⟨#[]⟩, true⟩ tY w).mono fun r w' h => ⟨?_, h.2.toBelow⟩
  rw [h.1, kb7]
theorem kt_c7 (w : World) : Calls Try.prog 25 #[.agg #[.string ⟨#[97]⟩, .string ⟨#[121]⟩, .string ⟨#[115]⟩, .string ⟨#[117]⟩, .string ⟨#[97]⟩, .string ⟨#[]⟩, .bool true], .agg #[.string ⟨#[97]⟩, .string ⟨#[120]⟩, .string ⟨#[114]⟩, .string ⟨#[117]⟩, .string ⟨#[98]⟩, .string ⟨#[]⟩]] w fun r w' => r = .returned (.bool false) ∧ Below w.heap.size w w' := by
  refine (ftakes ⟨⟨#[97]⟩, ⟨#[121]⟩, ⟨#[115]⟩, ⟨#[117]⟩, ⟨#[97]⟩, ⟨#[]⟩, true⟩ tB w).mono fun r w' h => ⟨?_, h.2.toBelow⟩
  rw [h.1, kc7]
theorem kn_keep {b5 b7 bi g k : Nat} {n : Int} {a0 a1 a2 a3 a4 a5 c0 c1 c2 c3 c4 c5 : ByteArray} {x y : Bool} {W W' : World} (hb : Below W.heap.size W W') (h : W.cell? ⟨b5, 0, none⟩ = some (.string a0) ∧ W.cell? ⟨b5, 1, none⟩ = some (.string a1) ∧ W.cell? ⟨b5, 2, none⟩ = some (.string a2) ∧ W.cell? ⟨b5, 3, none⟩ = some (.string a3) ∧ W.cell? ⟨b5, 4, none⟩ = some (.string a4) ∧ W.cell? ⟨b5, 5, none⟩ = some (.string a5) ∧ W.cell? ⟨b5, 6, none⟩ = some (.bool x) ∧ W.cell? ⟨b7, 0, none⟩ = some (.string c0) ∧ W.cell? ⟨b7, 1, none⟩ = some (.string c1) ∧ W.cell? ⟨b7, 2, none⟩ = some (.string c2) ∧ W.cell? ⟨b7, 3, none⟩ = some (.string c3) ∧ W.cell? ⟨b7, 4, none⟩ = some (.string c4) ∧ W.cell? ⟨b7, 5, none⟩ = some (.string c5) ∧ W.cell? ⟨b7, 6, none⟩ = some (.bool y) ∧ W.cell? ⟨bi, k, none⟩ = some (.int .i64 n) ∧ W.cell? ⟨g, 6, none⟩ = some (.string ⟨#[97]⟩) ∧ W.cell? ⟨g, 7, none⟩ = some (.string ⟨#[120]⟩) ∧ W.cell? ⟨g, 8, none⟩ = some (.string ⟨#[114]⟩) ∧ W.cell? ⟨g, 9, none⟩ = some (.string ⟨#[117]⟩) ∧ W.cell? ⟨g, 10, none⟩ = some (.string ⟨#[98]⟩) ∧ W.cell? ⟨g, 11, none⟩ = some (.string ⟨#[]⟩) ∧ W.cell? ⟨g, 12, none⟩ = some (.string ⟨#[97]⟩) ∧ W.cell? ⟨g, 13, none⟩ = some (.string ⟨#[121]⟩) ∧ W.cell? ⟨g, 14, none⟩ = some (.string ⟨#[115]⟩) ∧ W.cell? ⟨g, 15, none⟩ = some (.string ⟨#[117]⟩) ∧ W.cell? ⟨g, 16, none⟩ = some (.string ⟨#[97]⟩) ∧ W.cell? ⟨g, 17, none⟩ = some (.string ⟨#[]⟩) ∧ b5 < W.heap.size ∧ b7 < W.heap.size ∧ bi < W.heap.size ∧ g < W.heap.size) : W'.cell? ⟨b5, 0, none⟩ = some (.string a0) ∧ W'.cell? ⟨b5, 1, none⟩ = some (.string a1) ∧ W'.cell? ⟨b5, 2, none⟩ = some (.string a2) ∧ W'.cell? ⟨b5, 3, none⟩ = some (.string a3) ∧ W'.cell? ⟨b5, 4, none⟩ = some (.string a4) ∧ W'.cell? ⟨b5, 5, none⟩ = some (.string a5) ∧ W'.cell? ⟨b5, 6, none⟩ = some (.bool x) ∧ W'.cell? ⟨b7, 0, none⟩ = some (.string c0) ∧ W'.cell? ⟨b7, 1, none⟩ = some (.string c1) ∧ W'.cell? ⟨b7, 2, none⟩ = some (.string c2) ∧ W'.cell? ⟨b7, 3, none⟩ = some (.string c3) ∧ W'.cell? ⟨b7, 4, none⟩ = some (.string c4) ∧ W'.cell? ⟨b7, 5, none⟩ = some (.string c5) ∧ W'.cell? ⟨b7, 6, none⟩ = some (.bool y) ∧ W'.cell? ⟨bi, k, none⟩ = some (.int .i64 n) ∧ W'.cell? ⟨g, 6, none⟩ = some (.string ⟨#[97]⟩) ∧ W'.cell? ⟨g, 7, none⟩ = some (.string ⟨#[120]⟩) ∧ W'.cell? ⟨g, 8, none⟩ = some (.string ⟨#[114]⟩) ∧ W'.cell? ⟨g, 9, none⟩ = some (.string ⟨#[117]⟩) ∧ W'.cell? ⟨g, 10, none⟩ = some (.string ⟨#[98]⟩) ∧ W'.cell? ⟨g, 11, none⟩ = some (.string ⟨#[]⟩) ∧ W'.cell? ⟨g, 12, none⟩ = some (.string ⟨#[97]⟩) ∧ W'.cell? ⟨g, 13, none⟩ = some (.string ⟨#[121]⟩) ∧ W'.cell? ⟨g, 14, none⟩ = some (.string ⟨#[115]⟩) ∧ W'.cell? ⟨g, 15, none⟩ = some (.string ⟨#[117]⟩) ∧ W'.cell? ⟨g, 16, none⟩ = some (.string ⟨#[97]⟩) ∧ W'.cell? ⟨g, 17, none⟩ = some (.string ⟨#[]⟩) ∧ b5 < W'.heap.size ∧ b7 < W'.heap.size ∧ bi < W'.heap.size ∧ g < W'.heap.size := by
  obtain ⟨h0, h1, h2, h3, h4, h5, h6, k0, k1, k2, k3, k4, k5, k6, i0, m0, m1, m2, m3, m4, m5, q0, q1, q2, q3, q4, q5, s1, s2, s3, s4⟩ := h
  have r1 := own_cells hb b5 s1
  have r2 := own_cells hb b7 s2
  have r3 := own_cells hb bi s3
  have r4 := own_cells hb g s4
  exact ⟨(r1 _).1.trans h0, (r1 _).1.trans h1, (r1 _).1.trans h2, (r1 _).1.trans h3, (r1 _).1.trans h4, (r1 _).1.trans h5, (r1 _).1.trans h6, (r2 _).1.trans k0, (r2 _).1.trans k1, (r2 _).1.trans k2, (r2 _).1.trans k3, (r2 _).1.trans k4, (r2 _).1.trans k5, (r2 _).1.trans k6, (r3 _).1.trans i0, (r4 _).1.trans m0, (r4 _).1.trans m1, (r4 _).1.trans m2, (r4 _).1.trans m3, (r4 _).1.trans m4, (r4 _).1.trans m5, (r4 _).1.trans q0, (r4 _).1.trans q1, (r4 _).1.trans q2, (r4 _).1.trans q3, (r4 _).1.trans q4, (r4 _).1.trans q5, Nat.lt_of_lt_of_le s1 hb.size, Nat.lt_of_lt_of_le s2 hb.size, Nat.lt_of_lt_of_le s3 hb.size, Nat.lt_of_lt_of_le s4 hb.size⟩
/-- what the loop finds in memory -/
def KB (w : World) (t g : Nat) : Prop :=
  w.cell? ⟨t, 0, none⟩ = some (.string ⟨#[42, 58, 42, 35, 42]⟩) ∧ w.cell? ⟨t, 1, none⟩ = some (.string ⟨#[97, 58, 42, 35, 42]⟩) ∧ w.cell? ⟨t, 2, none⟩ = some (.string ⟨#[42, 58, 121, 35, 42]⟩) ∧ w.cell? ⟨t, 3, none⟩ = some (.string ⟨#[97, 58, 121, 35, 42]⟩) ∧ w.cell? ⟨t, 4, none⟩ = some (.string ⟨#[42, 58, 42, 35, 115]⟩) ∧ w.cell? ⟨t, 5, none⟩ = some (.string ⟨#[97, 58, 42, 35, 115]⟩) ∧ w.cell? ⟨t, 6, none⟩ = some (.string ⟨#[42, 58, 121, 35, 115]⟩) ∧ w.cell? ⟨t, 7, none⟩ = some (.string ⟨#[97, 58, 121, 35, 115]⟩) ∧ w.cell? ⟨t + 1, 0, none⟩ = some (.int .i64 0) ∧ w.cell? ⟨t + 1, 1, none⟩ = some (.int .i64 1) ∧ w.cell? ⟨t + 1, 2, none⟩ = some (.int .i64 0) ∧ w.cell? ⟨t + 1, 3, none⟩ = some (.int .i64 2) ∧ w.cell? ⟨t + 1, 4, none⟩ = some (.int .i64 0) ∧ w.cell? ⟨t + 1, 5, none⟩ = some (.int .i64 1) ∧ w.cell? ⟨t + 1, 6, none⟩ = some (.int .i64 0) ∧ w.cell? ⟨t + 1, 7, none⟩ = some (.int .i64 3) ∧ t + 1 < w.heap.size ∧ Row w (some ⟨g, 0, none⟩) smallL
theorem KB.keep {w w' : World} {t g : Nat} (h : KB w t g) (hb : Below w.heap.size w w') : KB w' t g := by
  obtain ⟨h0, h1, h2, h3, h4, h5, h6, h7, k0, k1, k2, k3, k4, k5, k6, k7, s, r⟩ := h
  have o := own_cells hb t (by omega)
  have q := own_cells hb (t + 1) s
  exact ⟨(o _).1.trans h0, (o _).1.trans h1, (o _).1.trans h2, (o _).1.trans h3, (o _).1.trans h4, (o _).1.trans h5, (o _).1.trans h6, (o _).1.trans h7, (q _).1.trans k0, (q _).1.trans k1, (q _).1.trans k2, (q _).1.trans k3, (q _).1.trans k4, (q _).1.trans k5, (q _).1.trans k6, (q _).1.trans k7, Nat.lt_of_lt_of_le s hb.size, r.below hb⟩
theorem sm_mid {w : World} {g : Nat} (h : Row w (some ⟨g, 0, none⟩) smallL) : w.cell? ⟨g, 6, none⟩ = some (.string ⟨#[97]⟩) ∧ w.cell? ⟨g, 7, none⟩ = some (.string ⟨#[120]⟩) ∧ w.cell? ⟨g, 8, none⟩ = some (.string ⟨#[114]⟩) ∧ w.cell? ⟨g, 9, none⟩ = some (.string ⟨#[117]⟩) ∧ w.cell? ⟨g, 10, none⟩ = some (.string ⟨#[98]⟩) ∧ w.cell? ⟨g, 11, none⟩ = some (.string ⟨#[]⟩) ∧ w.cell? ⟨g, 12, none⟩ = some (.string ⟨#[97]⟩) ∧ w.cell? ⟨g, 13, none⟩ = some (.string ⟨#[121]⟩) ∧ w.cell? ⟨g, 14, none⟩ = some (.string ⟨#[115]⟩) ∧ w.cell? ⟨g, 15, none⟩ = some (.string ⟨#[117]⟩) ∧ w.cell? ⟨g, 16, none⟩ = some (.string ⟨#[97]⟩) ∧ w.cell? ⟨g, 17, none⟩ = some (.string ⟨#[]⟩) ∧ g < w.heap.size := by
  obtain ⟨b, o, e, hL⟩ := h (by decide)
  injection e with e; injection e with e1 e2; subst e1; subst e2
  obtain ⟨x0, x1, x2, x3, x4, x5⟩ := (hL.six (k := 1) (by decide)).at0
  obtain ⟨y0, y1, y2, y3, y4, y5⟩ := (hL.six (k := 2) (by decide)).at0
  exact ⟨x0, x1, x2, x3, x4, x5, y0, y1, y2, y3, y4, y5, hL.1⟩
theorem kgs0 : ByteArray.size (⟨#[42, 58, 42, 35, 42]⟩ ++ ⟨#[64, 117, 58, 97]⟩) ≤ maxLen := by rw [ByteArray.size_append]; decide
theorem kgv0 (w : World) : Calls Try.prog 27 #[.string (⟨#[42, 58, 42, 35, 42]⟩ ++ ⟨#[64, 117, 58, 97]⟩)] w fun r w' => r = .returned (.tuple #[.agg #[.string ⟨#[]⟩, .string ⟨#[]⟩, .string ⟨#[]⟩, .string ⟨#[117]⟩, .string ⟨#[97]⟩, .string ⟨#[]⟩, .bool true], .int .i64 0]) ∧ Below w.heap.size w w' :=
  fparse_v _ _ _ _ _ _ _ _ _ w kgs0 kg0
theorem kgs1 : ByteArray.size (⟨#[97, 58, 42, 35, 42]⟩ ++ ⟨#[64, 117, 58, 97]⟩) ≤ maxLen := by rw [ByteArray.size_append]; decide
theorem kgv1 (w : World) : Calls Try.prog 27 #[.string (⟨#[97, 58, 42, 35, 42]⟩ ++ ⟨#[64, 117, 58, 97]⟩)] w fun r w' => r = .returned (.tuple #[.agg #[.string ⟨#[97]⟩, .string ⟨#[]⟩, .string ⟨#[]⟩, .string ⟨#[117]⟩, .string ⟨#[97]⟩, .string ⟨#[]⟩, .bool true], .int .i64 0]) ∧ Below w.heap.size w w' :=
  fparse_v _ _ _ _ _ _ _ _ _ w kgs1 kg1
theorem kgs2 : ByteArray.size (⟨#[42, 58, 121, 35, 42]⟩ ++ ⟨#[64, 117, 58, 97]⟩) ≤ maxLen := by rw [ByteArray.size_append]; decide
theorem kgv2 (w : World) : Calls Try.prog 27 #[.string (⟨#[42, 58, 121, 35, 42]⟩ ++ ⟨#[64, 117, 58, 97]⟩)] w fun r w' => r = .returned (.tuple #[.agg #[.string ⟨#[]⟩, .string ⟨#[121]⟩, .string ⟨#[]⟩, .string ⟨#[117]⟩, .string ⟨#[97]⟩, .string ⟨#[]⟩, .bool true], .int .i64 0]) ∧ Below w.heap.size w w' :=
  fparse_v _ _ _ _ _ _ _ _ _ w kgs2 kg2
theorem kgs3 : ByteArray.size (⟨#[97, 58, 121, 35, 42]⟩ ++ ⟨#[64, 117, 58, 97]⟩) ≤ maxLen := by rw [ByteArray.size_append]; decide
theorem kgv3 (w : World) : Calls Try.prog 27 #[.string (⟨#[97, 58, 121, 35, 42]⟩ ++ ⟨#[64, 117, 58, 97]⟩)] w fun r w' => r = .returned (.tuple #[.agg #[.string ⟨#[97]⟩, .string ⟨#[121]⟩, .string ⟨#[]⟩, .string ⟨#[117]⟩, .string ⟨#[97]⟩, .string ⟨#[]⟩, .bool true], .int .i64 0]) ∧ Below w.heap.size w w' :=
  fparse_v _ _ _ _ _ _ _ _ _ w kgs3 kg3
theorem kgs4 : ByteArray.size (⟨#[42, 58, 42, 35, 115]⟩ ++ ⟨#[64, 117, 58, 97]⟩) ≤ maxLen := by rw [ByteArray.size_append]; decide
theorem kgv4 (w : World) : Calls Try.prog 27 #[.string (⟨#[42, 58, 42, 35, 115]⟩ ++ ⟨#[64, 117, 58, 97]⟩)] w fun r w' => r = .returned (.tuple #[.agg #[.string ⟨#[]⟩, .string ⟨#[]⟩, .string ⟨#[115]⟩, .string ⟨#[117]⟩, .string ⟨#[97]⟩, .string ⟨#[]⟩, .bool true], .int .i64 0]) ∧ Below w.heap.size w w' :=
  fparse_v _ _ _ _ _ _ _ _ _ w kgs4 kg4
theorem kgs5 : ByteArray.size (⟨#[97, 58, 42, 35, 115]⟩ ++ ⟨#[64, 117, 58, 97]⟩) ≤ maxLen := by rw [ByteArray.size_append]; decide
theorem kgv5 (w : World) : Calls Try.prog 27 #[.string (⟨#[97, 58, 42, 35, 115]⟩ ++ ⟨#[64, 117, 58, 97]⟩)] w fun r w' => r = .returned (.tuple #[.agg #[.string ⟨#[97]⟩, .string ⟨#[]⟩, .string ⟨#[115]⟩, .string ⟨#[117]⟩, .string ⟨#[97]⟩, .string ⟨#[]⟩, .bool true], .int .i64 0]) ∧ Below w.heap.size w w' :=
  fparse_v _ _ _ _ _ _ _ _ _ w kgs5 kg5
theorem kgs6 : ByteArray.size (⟨#[42, 58, 121, 35, 115]⟩ ++ ⟨#[64, 117, 58, 97]⟩) ≤ maxLen := by rw [ByteArray.size_append]; decide
theorem kgv6 (w : World) : Calls Try.prog 27 #[.string (⟨#[42, 58, 121, 35, 115]⟩ ++ ⟨#[64, 117, 58, 97]⟩)] w fun r w' => r = .returned (.tuple #[.agg #[.string ⟨#[]⟩, .string ⟨#[121]⟩, .string ⟨#[115]⟩, .string ⟨#[117]⟩, .string ⟨#[97]⟩, .string ⟨#[]⟩, .bool true], .int .i64 0]) ∧ Below w.heap.size w w' :=
  fparse_v _ _ _ _ _ _ _ _ _ w kgs6 kg6
theorem kgs7 : ByteArray.size (⟨#[97, 58, 121, 35, 115]⟩ ++ ⟨#[64, 117, 58, 97]⟩) ≤ maxLen := by rw [ByteArray.size_append]; decide
theorem kgv7 (w : World) : Calls Try.prog 27 #[.string (⟨#[97, 58, 121, 35, 115]⟩ ++ ⟨#[64, 117, 58, 97]⟩)] w fun r w' => r = .returned (.tuple #[.agg #[.string ⟨#[97]⟩, .string ⟨#[121]⟩, .string ⟨#[115]⟩, .string ⟨#[117]⟩, .string ⟨#[97]⟩, .string ⟨#[]⟩, .bool true], .int .i64 0]) ∧ Below w.heap.size w w' :=
  fparse_v _ _ _ _ _ _ _ _ _ w kgs7 kg7

set_option maxRecDepth 100000 in
set_option maxHeartbeats 40000000 in
theorem known_walk (w : World) : Calls Try.prog 6 #[] w fun e w' => e = .returned (.bool true) ∧ Below w.heap.size w w' := by
  go_enter Try.func6, Try.ntmps6
  go_wp2_with fail
  refine (small_any _).mono ?_
  rintro r w1 ⟨v, rfl, hown, hw1⟩
  rcases hown.form with ⟨_, hl⟩ | ⟨g, cap, rfl, hcap, hR1⟩
  · cases hl
  have hcap4 : 4 ≤ cap := hcap
  have h4 : smallL.length = 4 := rfl
  rw [h4]
  clear h4 hcap hown
  have HR1 := hid hR1; clear hR1
  go_wp2
  go_loopg [4] 8 (fun n i wr => ∃ k : Nat, n = 8 - k ∧ k ≤ 8 ∧ i = .int .i64 k ∧ KB wr w1.heap.size g ∧ Below w.heap.size w wr)
  case atStart => exact ⟨0, rfl, by omega, rfl, by simp only [KB]; exact ⟨by go_simp, by go_simp, by go_simp, by go_simp, by go_simp, by go_simp, by go_simp, by go_simp, by go_simp, by go_simp, by go_simp, by go_simp, by go_simp, by go_simp, by go_simp, by go_simp, by simp, (HR1.out.below (g_alloc g_refl _)).below (g_alloc g_refl _)⟩, g_alloc (g_alloc hw1 _) _⟩
  case round =>
    obtain ⟨k, hgk, hk, rfl, hkb, hB⟩ := hrel
    have HGK := hid hgk
    clear hgk
    have HKB := hid hkb; clear hkb
    clear HR1 hw1
    generalize w1.heap.size = t at *
    rcases (show k = 0 ∨ k = 1 ∨ k = 2 ∨ k = 3 ∨ k = 4 ∨ k = 5 ∨ k = 6 ∨ k = 7 ∨ k = 8 by omega) with rfl | rfl | rfl | rfl | rfl | rfl | rfl | rfl | rfl <;> clear hk
    · as_aux_lemma =>
      obtain ⟨e0, e1, e2, e3, e4, e5, e6, e7, n0, n1, n2, n3, n4, n5, n6, n7, es, er⟩ := HKB.out
      clear e1 e2 e3 e4 e5 e6 e7 n0 n1 n2 n3 n4 n5 n6 n7 er
      go_wp2_with fail
      refine (fparse_v ⟨#[42, 58, 42, 35, 42]⟩ ⟨#[]⟩ ⟨#[]⟩ ⟨#[]⟩ ⟨#[]⟩ ⟨#[]⟩ ⟨#[]⟩ false 0 _ (by decide) kf0).mono ?_
      rintro r y1 ⟨rfl, hy1⟩
      have HKB1 := hid (HKB.out.keep hy1)
      have HF1 : Hid (FB (y1.alloc (.cells #[.string ⟨#[]⟩, .string ⟨#[]⟩, .string ⟨#[]⟩, .string ⟨#[]⟩, .string ⟨#[]⟩, .string ⟨#[]⟩, .bool false] 47)) y1.heap.size ⟨⟨#[]⟩, ⟨#[]⟩, ⟨#[]⟩, ⟨#[]⟩, ⟨#[]⟩, ⟨#[]⟩, false⟩) := hid (by simp only [FB]; exact ⟨by go_simp, by go_simp, by go_simp, by go_simp, by go_simp, by go_simp, by go_simp, by simp⟩)
      clear e0 es
      obtain ⟨e0, e1, e2, e3, e4, e5, e6, e7, n0, n1, n2, n3, n4, n5, n6, n7, es, er⟩ := HKB1.out
      clear e1 e2 e3 e4 e5 e6 e7 n0 n1 n2 n3 n4 n5 n6 n7 er
      have hB1 := g_trans hB hy1
      clear hy1 hB HKB
      have e0a : (y1.alloc (.cells #[.string ⟨#[]⟩, .string ⟨#[]⟩, .string ⟨#[]⟩, .string ⟨#[]⟩, .string ⟨#[]⟩, .string ⟨#[]⟩, .bool false] 47)).cell? ⟨t, 0, none⟩ = some (.string ⟨#[42, 58, 42, 35, 42]⟩) := (World.cell?_alloc_lt _ _ _ (World.block_lt_of_cell? _ _ e0)).trans e0
      have lt0 : t < y1.heap.size := World.block_lt_of_cell? _ _ e0
      have ne0 : ¬ t = y1.heap.size := by omega
      go_wp2_with fail
      with_reducible refine (kgv0 _).mono ?_
      rintro r y2 ⟨rfl, hy2⟩
      have HKB2 := hid (((HKB1.out.keep (g_alloc g_refl _)).keep hy2).keep (g_alloc g_refl (.cells #[.string ⟨#[]⟩, .string ⟨#[]⟩, .string ⟨#[]⟩, .string ⟨#[117]⟩, .string ⟨#[97]⟩, .string ⟨#[]⟩, .bool true] 47)))
      have HF2 := hid ((HF1.out.keep hy2).keep (g_alloc g_refl (.cells #[.string ⟨#[]⟩, .string ⟨#[]⟩, .string ⟨#[]⟩, .string ⟨#[117]⟩, .string ⟨#[97]⟩, .string ⟨#[]⟩, .bool true] 47)))
      have HG2 : Hid (FB (y2.alloc (.cells #[.string ⟨#[]⟩, .string ⟨#[]⟩, .string ⟨#[]⟩, .string ⟨#[117]⟩, .string ⟨#[97]⟩, .string ⟨#[]⟩, .bool true] 47)) y2.heap.size ⟨⟨#[]⟩, ⟨#[]⟩, ⟨#[]⟩, ⟨#[117]⟩, ⟨#[97]⟩, ⟨#[]⟩, true⟩) := hid (by simp only [FB]; exact ⟨by go_simp, by go_simp, by go_simp, by go_simp, by go_simp, by go_simp, by go_simp, by simp⟩)
      have hB2 := g_alloc (g_trans (g_alloc hB1 _) hy2) (.cells #[.string ⟨#[]⟩, .string ⟨#[]⟩, .string ⟨#[]⟩, .string ⟨#[117]⟩, .string ⟨#[97]⟩, .string ⟨#[]⟩, .bool true] 47)
      clear hy2 hB1 HKB1 HF1 e0 es
      generalize y1.heap.size = b5 at *
      go_wp2_with fail
      refine (ks0 g cap _ HKB2.out.2.2.2.2.2.2.2.2.2.2.2.2.2.2.2.2.2 hcap4).mono ?_
      rintro r y3 ⟨⟨A, rfl⟩, hy3⟩
      generalize y2.heap.size = b7 at *
      have HKB3 := hid (HKB2.out.keep hy3)
      have hf3 := HF2.out.keep hy3
      have hg3 := HG2.out.keep hy3
      have hB3 := g_trans hB2 hy3
      clear hy3 hB2 HKB2 HF2 HG2
      simp only [FB] at hf3 hg3
      obtain ⟨f0, f1, f2, f3, f4, f5, f6, f7⟩ := hf3
      obtain ⟨g0, g1, g2, g3, g4, g5, g6, g7⟩ := hg3
      obtain ⟨e0, e1, e2, e3, e4, e5, e6, e7, n0, n1, n2, n3, n4, n5, n6, n7, es, er⟩ := HKB3.out
      obtain ⟨m0, m1, m2, m3, m4, m5, q0, q1, q2, q3, q4, q5, hgs⟩ := sm_mid er
      clear e0 e1 e2 e3 e4 e5 e6 e7 n1 n2 n3 n4 n5 n6 n7 er
      generalize hbi : t + 1 = bi at *
      have hS : y3.cell? ⟨b5, 0, none⟩ = some (.string ⟨#[]⟩) ∧ y3.cell? ⟨b5, 1, none⟩ = some (.string ⟨#[]⟩) ∧ y3.cell? ⟨b5, 2, none⟩ = some (.string ⟨#[]⟩) ∧ y3.cell? ⟨b5, 3, none⟩ = some (.string ⟨#[]⟩) ∧ y3.cell? ⟨b5, 4, none⟩ = some (.string ⟨#[]⟩) ∧ y3.cell? ⟨b5, 5, none⟩ = some (.string ⟨#[]⟩) ∧ y3.cell? ⟨b5, 6, none⟩ = some (.bool false) ∧ y3.cell? ⟨b7, 0, none⟩ = some (.string ⟨#[]⟩) ∧ y3.cell? ⟨b7, 1, none⟩ = some (.string ⟨#[]⟩) ∧ y3.cell? ⟨b7, 2, none⟩ = some (.string ⟨#[]⟩) ∧ y3.cell? ⟨b7, 3, none⟩ = some (.string ⟨#[117]⟩) ∧ y3.cell? ⟨b7, 4, none⟩ = some (.string ⟨#[97]⟩) ∧ y3.cell? ⟨b7, 5, none⟩ = some (.string ⟨#[]⟩) ∧ y3.cell? ⟨b7, 6, none⟩ = some (.bool true) ∧ y3.cell? ⟨bi, 0, none⟩ = some (.int .i64 0) ∧ y3.cell? ⟨g, 6, none⟩ = some (.string ⟨#[97]⟩) ∧ y3.cell? ⟨g, 7, none⟩ = some (.string ⟨#[120]⟩) ∧ y3.cell? ⟨g, 8, none⟩ = some (.string ⟨#[114]⟩) ∧ y3.cell? ⟨g, 9, none⟩ = some (.string ⟨#[117]⟩) ∧ y3.cell? ⟨g, 10, none⟩ = some (.string ⟨#[98]⟩) ∧ y3.cell? ⟨g, 11, none⟩ = some (.string ⟨#[]⟩) ∧ y3.cell? ⟨g, 12, none⟩ = some (.string ⟨#[97]⟩) ∧ y3.cell? ⟨g, 13, none⟩ = some (.string ⟨#[121]⟩) ∧ y3.cell? ⟨g, 14, none⟩ = some (.string ⟨#[115]⟩) ∧ y3.cell? ⟨g, 15, none⟩ = some (.string ⟨#[117]⟩) ∧ y3.cell? ⟨g, 16, none⟩ = some (.string ⟨#[97]⟩) ∧ y3.cell? ⟨g, 17, none⟩ = some (.string ⟨#[]⟩) ∧ b5 < y3.heap.size ∧ b7 < y3.heap.size ∧ bi < y3.heap.size ∧ g < y3.heap.size := ⟨f0, f1, f2, f3, f4, f5, f6, g0, g1, g2, g3, g4, g5, g6, n0, m0, m1, m2, m3, m4, m5, q0, q1, q2, q3, q4, q5, f7, g7, es, hgs⟩
      clear f0 f1 f2 f3 f4 f5 f6 f7 g0 g1 g2 g3 g4 g5 g6 g7 m0 m1 m2 m3 m4 m5 q0 q1 q2 q3 q4 q5 hgs
      go_upto_region 13 with fail
      go_cut [92] (fun s wx => s = .bool false ∧ KB wx t g ∧ Below w.heap.size w wx)
      case first =>
        go_region_held3 (fun w' => w'.cell? ⟨b5, 0, none⟩ = some (.string ⟨#[]⟩) ∧ w'.cell? ⟨b5, 1, none⟩ = some (.string ⟨#[]⟩) ∧ w'.cell? ⟨b5, 2, none⟩ = some (.string ⟨#[]⟩) ∧ w'.cell? ⟨b5, 3, none⟩ = some (.string ⟨#[]⟩) ∧ w'.cell? ⟨b5, 4, none⟩ = some (.string ⟨#[]⟩) ∧ w'.cell? ⟨b5, 5, none⟩ = some (.string ⟨#[]⟩) ∧ w'.cell? ⟨b5, 6, none⟩ = some (.bool false) ∧ w'.cell? ⟨b7, 0, none⟩ = some (.string ⟨#[]⟩) ∧ w'.cell? ⟨b7, 1, none⟩ = some (.string ⟨#[]⟩) ∧ w'.cell? ⟨b7, 2, none⟩ = some (.string ⟨#[]⟩) ∧ w'.cell? ⟨b7, 3, none⟩ = some (.string ⟨#[117]⟩) ∧ w'.cell? ⟨b7, 4, none⟩ = some (.string ⟨#[97]⟩) ∧ w'.cell? ⟨b7, 5, none⟩ = some (.string ⟨#[]⟩) ∧ w'.cell? ⟨b7, 6, none⟩ = some (.bool true) ∧ w'.cell? ⟨bi, 0, none⟩ = some (.int .i64 0) ∧ w'.cell? ⟨g, 6, none⟩ = some (.string ⟨#[97]⟩) ∧ w'.cell? ⟨g, 7, none⟩ = some (.string ⟨#[120]⟩) ∧ w'.cell? ⟨g, 8, none⟩ = some (.string ⟨#[114]⟩) ∧ w'.cell? ⟨g, 9, none⟩ = some (.string ⟨#[117]⟩) ∧ w'.cell? ⟨g, 10, none⟩ = some (.string ⟨#[98]⟩) ∧ w'.cell? ⟨g, 11, none⟩ = some (.string ⟨#[]⟩) ∧ w'.cell? ⟨g, 12, none⟩ = some (.string ⟨#[97]⟩) ∧ w'.cell? ⟨g, 13, none⟩ = some (.string ⟨#[121]⟩) ∧ w'.cell? ⟨g, 14, none⟩ = some (.string ⟨#[115]⟩) ∧ w'.cell? ⟨g, 15, none⟩ = some (.string ⟨#[117]⟩) ∧ w'.cell? ⟨g, 16, none⟩ = some (.string ⟨#[97]⟩) ∧ w'.cell? ⟨g, 17, none⟩ = some (.string ⟨#[]⟩) ∧ b5 < w'.heap.size ∧ b7 < w'.heap.size ∧ bi < w'.heap.size ∧ g < w'.heap.size) (first | assumption | exact kn_keep (by assumption) (by assumption) | exact kn_keep (g_drew g_refl) (by assumption))
          (first | (go_at_call 23; (with_reducible refine (fprefix_v ⟨#[]⟩ ⟨#[]⟩ ⟨#[]⟩ ⟨#[]⟩ ⟨#[]⟩ ⟨#[]⟩ false 0 _ kp0).mono ?_); rintro r x1 ⟨rfl, hc1⟩) | (go_at_call 23; (with_reducible refine (fprefix_v ⟨#[]⟩ ⟨#[]⟩ ⟨#[]⟩ ⟨#[117]⟩ ⟨#[97]⟩ ⟨#[]⟩ true 0 _ kq0).mono ?_); rintro r x2 ⟨rfl, hc2⟩) | (go_at_call 25; (with_reducible refine (kt_a0 _).mono ?_); rintro r x3 ⟨rfl, hc3⟩) | (go_at_call 25; (with_reducible refine (kt_b0 _).mono ?_); rintro r x4 ⟨rfl, hc4⟩) | (go_at_call 25; (with_reducible refine (kt_c0 _).mono ?_); rintro r x5 ⟨rfl, hc5⟩))
        all_goals
          go_wp2_with fail
          go_meet
          exact ⟨rfl, HKB3.out.keep (by repeat (first | (with_reducible exact g_refl) | (with_reducible refine g_drew ?_) | (with_reducible refine g_alloc ?_ _) | (with_reducible refine g_trans ?_ hc5) | (with_reducible refine g_trans ?_ hc4) | (with_reducible refine g_trans ?_ hc3) | (with_reducible refine g_trans ?_ hc2) | (with_reducible refine g_trans ?_ hc1))), g_trans hB3 (by repeat (first | (with_reducible exact g_refl) | (with_reducible refine g_drew ?_) | (with_reducible refine g_alloc ?_ _) | (with_reducible refine g_trans ?_ hc5) | (with_reducible refine g_trans ?_ hc4) | (with_reducible refine g_trans ?_ hc3) | (with_reducible refine g_trans ?_ hc2) | (with_reducible refine g_trans ?_ hc1)))⟩
      case rest =>
        obtain ⟨rfl, hkb, hB⟩ := hcut
        have HKB4 := hid hkb; clear hkb
        go_wp2
        go_roundg (8 - (0 + 1))
        case measure => have := HGK.out; omega
        case rel => exact ⟨0 + 1, rfl, by omega, by go_num, HKB4.out, hB⟩
    · as_aux_lemma =>
      obtain ⟨e0, e1, e2, e3, e4, e5, e6, e7, n0, n1, n2, n3, n4, n5, n6, n7, es, er⟩ := HKB.out
      clear e0 e2 e3 e4 e5 e6 e7 n0 n1 n2 n3 n4 n5 n6 n7 er
      go_wp2_with fail
      refine (fparse_v ⟨#[97, 58, 42, 35, 42]⟩ ⟨#[97]⟩ ⟨#[]⟩ ⟨#[]⟩ ⟨#[]⟩ ⟨#[]⟩ ⟨#[]⟩ false 0 _ (by decide) kf1).mono ?_
      rintro r y1 ⟨rfl, hy1⟩
      have HKB1 := hid (HKB.out.keep hy1)
      have HF1 : Hid (FB (y1.alloc (.cells #[.string ⟨#[97]⟩, .string ⟨#[]⟩, .string ⟨#[]⟩, .string ⟨#[]⟩, .string ⟨#[]⟩, .string ⟨#[]⟩, .bool false] 47)) y1.heap.size ⟨⟨#[97]⟩, ⟨#[]⟩, ⟨#[]⟩, ⟨#[]⟩, ⟨#[]⟩, ⟨#[]⟩, false⟩) := hid (by simp only [FB]; exact ⟨by go_simp, by go_simp, by go_simp, by go_simp, by go_simp, by go_simp, by go_simp, by simp⟩)
      clear e1 es
      obtain ⟨e0, e1, e2, e3, e4, e5, e6, e7, n0, n1, n2, n3, n4, n5, n6, n7, es, er⟩ := HKB1.out
      clear e0 e2 e3 e4 e5 e6 e7 n0 n1 n2 n3 n4 n5 n6 n7 er
      have hB1 := g_trans hB hy1
      clear hy1 hB HKB
      have e1a : (y1.alloc (.cells #[.string ⟨#[97]⟩, .string ⟨#[]⟩, .string ⟨#[]⟩, .string ⟨#[]⟩, .string ⟨#[]⟩, .string ⟨#[]⟩, .bool false] 47)).cell? ⟨t, 1, none⟩ = some (.string ⟨#[97, 58, 42, 35, 42]⟩) := (World.cell?_alloc_lt _ _ _ (World.block_lt_of_cell? _ _ e1)).trans e1
      have lt0 : t < y1.heap.size := World.block_lt_of_cell? _ _ e1
      have ne0 : ¬ t = y1.heap.size := by omega
      go_wp2_with fail
      with_reducible refine (kgv1 _).mono ?_
      rintro r y2 ⟨rfl, hy2⟩
      have HKB2 := hid (((HKB1.out.keep (g_alloc g_refl _)).keep hy2).keep (g_alloc g_refl (.cells #[.string ⟨#[97]⟩, .string ⟨#[]⟩, .string ⟨#[]⟩, .string ⟨#[117]⟩, .string ⟨#[97]⟩, .string ⟨#[]⟩, .bool true] 47)))
      have HF2 := hid ((HF1.out.keep hy2).keep (g_alloc g_refl (.cells #[.string ⟨#[97]⟩, .string ⟨#[]⟩, .string ⟨#[]⟩, .string ⟨#[117]⟩, .string ⟨#[97]⟩, .string ⟨#[]⟩, .bool true] 47)))
      have HG2 : Hid (FB (y2.alloc (.cells #[.string ⟨#[97]⟩, .string ⟨#[]⟩, .string ⟨#[]⟩, .string ⟨#[117]⟩, .string ⟨#[97]⟩, .string ⟨#[]⟩, .bool true] 47)) y2.heap.size ⟨⟨#[97]⟩, ⟨#[]⟩, ⟨#[]⟩, ⟨#[117]⟩, ⟨#[97]⟩, ⟨#[]⟩, true⟩) := hid (by simp only [FB]; exact ⟨by go_simp, by go_simp, by go_simp, by go_simp, by go_simp, by go_simp, by go_simp, by simp⟩)
      have hB2 := g_alloc (g_trans (g_alloc hB1 _) hy2) (.cells #[.string ⟨#[97]⟩, .string ⟨#[]⟩, .string ⟨#[]⟩, .string ⟨#[117]⟩, .string ⟨#[97]⟩, .string ⟨#[]⟩, .bool true] 47)
      clear hy2 hB1 HKB1 HF1 e1 es
      generalize y1.heap.size = b5 at *
      go_wp2_with fail
      refine (ks1 g cap _ HKB2.out.2.2.2.2.2.2.2.2.2.2.2.2.2.2.2.2.2 hcap4).mono ?_
      rintro r y3 ⟨⟨A, rfl⟩, hy3⟩
      generalize y2.heap.size = b7 at *
      have HKB3 := hid (HKB2.out.keep hy3)
      have hf3 := HF2.out.keep hy3
      have hg3 := HG2.out.keep hy3
      have hB3 := g_trans hB2 hy3
      clear hy3 hB2 HKB2 HF2 HG2
      simp only [FB] at hf3 hg3
      obtain ⟨f0, f1, f2, f3, f4, f5, f6, f7⟩ := hf3
      obtain ⟨g0, g1, g2, g3, g4, g5, g6, g7⟩ := hg3
      obtain ⟨e0, e1, e2, e3, e4, e5, e6, e7, n0, n1, n2, n3, n4, n5, n6, n7, es, er⟩ := HKB3.out
      obtain ⟨m0, m1, m2, m3, m4, m5, q0, q1, q2, q3, q4, q5, hgs⟩ := sm_mid er
      clear e0 e1 e2 e3 e4 e5 e6 e7 n0 n2 n3 n4 n5 n6 n7 er
      generalize hbi : t + 1 = bi at *
      have hS : y3.cell? ⟨b5, 0, none⟩ = some (.string ⟨#[97]⟩) ∧ y3.cell? ⟨b5, 1, none⟩ = some (.string ⟨#[]⟩) ∧ y3.cell? ⟨b5, 2, none⟩ = some (.string ⟨#[]⟩) ∧ y3.cell? ⟨b5, 3, none⟩ = some (.string ⟨#[]⟩) ∧ y3.cell? ⟨b5, 4, none⟩ = some (.string ⟨#[]⟩) ∧ y3.cell? ⟨b5, 5, none⟩ = some (.string ⟨#[]⟩) ∧ y3.cell? ⟨b5, 6, none⟩ = some (.bool false) ∧ y3.cell? ⟨b7, 0, none⟩ = some (.string ⟨#[97]⟩) ∧ y3.cell? ⟨b7, 1, none⟩ = some (.string ⟨#[]⟩) ∧ y3.cell? ⟨b7, 2, none⟩ = some (.string ⟨#[]⟩) ∧ y3.cell? ⟨b7, 3, none⟩ = some (.string ⟨#[117]⟩) ∧ y3.cell? ⟨b7, 4, none⟩ = some (.string ⟨#[97]⟩) ∧ y3.cell? ⟨b7, 5, none⟩ = some (.string ⟨#[]⟩) ∧ y3.cell? ⟨b7, 6, none⟩ = some (.bool true) ∧ y3.cell? ⟨bi, 1, none⟩ = some (.int .i64 1) ∧ y3.cell? ⟨g, 6, none⟩ = some (.string ⟨#[97]⟩) ∧ y3.cell? ⟨g, 7, none⟩ = some (.string ⟨#[120]⟩) ∧ y3.cell? ⟨g, 8, none⟩ = some (.string ⟨#[114]⟩) ∧ y3.cell? ⟨g, 9, none⟩ = some (.string ⟨#[117]⟩) ∧ y3.cell? ⟨g, 10, none⟩ = some (.string ⟨#[98]⟩) ∧ y3.cell? ⟨g, 11, none⟩ = some (.string ⟨#[]⟩) ∧ y3.cell? ⟨g, 12, none⟩ = some (.string ⟨#[97]⟩) ∧ y3.cell? ⟨g, 13, none⟩ = some (.string ⟨#[121]⟩) ∧ y3.cell? ⟨g, 14, none⟩ = some (.string ⟨#[115]⟩) ∧ y3.cell? ⟨g, 15, none⟩ = some (.string ⟨#[117]⟩) ∧ y3.cell? ⟨g, 16, none⟩ = some (.string ⟨#[97]⟩) ∧ y3.cell? ⟨g, 17, none⟩ = some (.string ⟨#[]⟩) ∧ b5 < y3.heap.size ∧ b7 < y3.heap.size ∧ bi < y3.heap.size ∧ g < y3.heap.size := ⟨f0, f1, f2, f3, f4, f5, f6, g0, g1, g2, g3, g4, g5, g6, n1, m0, m1, m2, m3, m4, m5, q0, q1, q2, q3, q4, q5, f7, g7, es, hgs⟩
      clear f0 f1 f2 f3 f4 f5 f6 f7 g0 g1 g2 g3 g4 g5 g6 g7 m0 m1 m2 m3 m4 m5 q0 q1 q2 q3 q4 q5 hgs
      go_upto_region 13 with fail
      go_cut [92] (fun s wx => s = .bool false ∧ KB wx t g ∧ Below w.heap.size w wx)
      case first =>
        go_region_held3 (fun w' => w'.cell? ⟨b5, 0, none⟩ = some (.string ⟨#[97]⟩) ∧ w'.cell? ⟨b5, 1, none⟩ = some (.string ⟨#[]⟩) ∧ w'.cell? ⟨b5, 2, none⟩ = some (.string ⟨#[]⟩) ∧ w'.cell? ⟨b5, 3, none⟩ = some (.string ⟨#[]⟩) ∧ w'.cell? ⟨b5, 4, none⟩ = some (.string ⟨#[]⟩) ∧ w'.cell? ⟨b5, 5, none⟩ = some (.string ⟨#[]⟩) ∧ w'.cell? ⟨b5, 6, none⟩ = some (.bool false) ∧ w'.cell? ⟨b7, 0, none⟩ = some (.string ⟨#[97]⟩) ∧ w'.cell? ⟨b7, 1, none⟩ = some (.string ⟨#[]⟩) ∧ w'.cell? ⟨b7, 2, none⟩ = some (.string ⟨#[]⟩) ∧ w'.cell? ⟨b7, 3, none⟩ = some (.string ⟨#[117]⟩) ∧ w'.cell? ⟨b7, 4, none⟩ = some (.string ⟨#[97]⟩) ∧ w'.cell? ⟨b7, 5, none⟩ = some (.string ⟨#[]⟩) ∧ w'.cell? ⟨b7, 6, none⟩ = some (.bool true) ∧ w'.cell? ⟨bi, 1, none⟩ = some (.int .i64 1) ∧ w'.cell? ⟨g, 6, none⟩ = some (.string ⟨#[97]⟩) ∧ w'.cell? ⟨g, 7, none⟩ = some (.string ⟨#[120]⟩) ∧ w'.cell? ⟨g, 8, none⟩ = some (.string ⟨#[114]⟩) ∧ w'.cell? ⟨g, 9, none⟩ = some (.string ⟨#[117]⟩) ∧ w'.cell? ⟨g, 10, none⟩ = some (.string ⟨#[98]⟩) ∧ w'.cell? ⟨g, 11, none⟩ = some (.string ⟨#[]⟩) ∧ w'.cell? ⟨g, 12, none⟩ = some (.string ⟨#[97]⟩) ∧ w'.cell? ⟨g, 13, none⟩ = some (.string ⟨#[121]⟩) ∧ w'.cell? ⟨g, 14, none⟩ = some (.string ⟨#[115]⟩) ∧ w'.cell? ⟨g, 15, none⟩ = some (.string ⟨#[117]⟩) ∧ w'.cell? ⟨g, 16, none⟩ = some (.string ⟨#[97]⟩) ∧ w'.cell? ⟨g, 17, none⟩ = some (.string ⟨#[]⟩) ∧ b5 < w'.heap.size ∧ b7 < w'.heap.size ∧ bi < w'.heap.size ∧ g < w'.heap.size) (first | assumption | exact kn_keep (by assumption) (by assumption) | exact kn_keep (g_drew g_refl) (by assumption))
          (first | (go_at_call 23; (with_reducible refine (fprefix_v ⟨#[97]⟩ ⟨#[]⟩ ⟨#[]⟩ ⟨#[]⟩ ⟨#[]⟩ ⟨#[]⟩ false 1 _ kp1).mono ?_); rintro r x1 ⟨rfl, hc1⟩) | (go_at_call 23; (with_reducible refine (fprefix_v ⟨#[97]⟩ ⟨#[]⟩ ⟨#[]⟩ ⟨#[117]⟩ ⟨#[97]⟩ ⟨#[]⟩ true 1 _ kq1).mono ?_); rintro r x2 ⟨rfl, hc2⟩) | (go_at_call 25; (with_reducible refine (kt_a1 _).mono ?_); rintro r x3 ⟨rfl, hc3⟩) | (go_at_call 25; (with_reducible refine (kt_b1 _).mono ?_); rintro r x4 ⟨rfl, hc4⟩) | (go_at_call 25; (with_reducible refine (kt_c1 _).mono ?_); rintro r x5 ⟨rfl, hc5⟩))
        all_goals
          go_wp2_with fail
          go_meet
          exact ⟨rfl, HKB3.out.keep (by repeat (first | (with_reducible exact g_refl) | (with_reducible refine g_drew ?_) | (with_reducible refine g_alloc ?_ _) | (with_reducible refine g_trans ?_ hc5) | (with_reducible refine g_trans ?_ hc4) | (with_reducible refine g_trans ?_ hc3) | (with_reducible refine g_trans ?_ hc2) | (with_reducible refine g_trans ?_ hc1))), g_trans hB3 (by repeat (first | (with_reducible exact g_refl) | (with_reducible refine g_drew ?_) | (with_reducible refine g_alloc ?_ _) | (with_reducible refine g_trans ?_ hc5) | (with_reducible refine g_trans ?_ hc4) | (with_reducible refine g_trans ?_ hc3) | (with_reducible refine g_trans ?_ hc2) | (with_reducible refine g_trans ?_ hc1)))⟩
      case rest =>
        obtain ⟨rfl, hkb, hB⟩ := hcut
        have HKB4 := hid hkb; clear hkb
        go_wp2
        go_roundg (8 - (1 + 1))
        case measure => have := HGK.out; omega
        case rel => exact ⟨1 + 1, rfl, by omega, by go_num, HKB4.out, hB⟩
    · as_aux_lemma =>
      obtain ⟨e0, e1, e2, e3, e4, e5, e6, e7, n0, n1, n2, n3, n4, n5, n6, n7, es, er⟩ := HKB.out
      clear e0 e1 e3 e4 e5 e6 e7 n0 n1 n2 n3 n4 n5 n6 n7 er
      go_wp2_with fail
      refine (fparse_v ⟨#[42, 58, 121, 35, 42]⟩ ⟨#[]⟩ ⟨#[121]⟩ ⟨#[]⟩ ⟨#[]⟩ ⟨#[]⟩ ⟨#[]⟩ false 0 _ (by decide) kf2).mono ?_
      rintro r y1 ⟨rfl, hy1⟩
      have HKB1 := hid (HKB.out.keep hy1)
      have HF1 : Hid (FB (y1.alloc (.cells #[.string ⟨#[]⟩, .string ⟨#[121]⟩, .string ⟨#[]⟩, .string ⟨#[]⟩, .string ⟨#[]⟩, .string ⟨#[]⟩, .bool false] 47)) y1.heap.size ⟨⟨#[]⟩, ⟨#[121]⟩, ⟨#[]⟩, ⟨#[]⟩, ⟨#[]⟩, ⟨#[]⟩, false⟩) := hid (by simp only [FB]; exact ⟨by go_simp, by go_simp, by go_simp, by go_simp, by go_simp, by go_simp, by go_simp, by simp⟩)
      clear e2 es
      obtain ⟨e0, e1, e2, e3, e4, e5, e6, e7, n0, n1, n2, n3, n4, n5, n6, n7, es, er⟩ := HKB1.out
      clear e0 e1 e3 e4 e5 e6 e7 n0 n1 n2 n3 n4 n5 n6 n7 er
      have hB1 := g_trans hB hy1
      clear hy1 hB HKB
      have e2a : (y1.alloc (.cells #[.string ⟨#[]⟩, .string ⟨#[121]⟩, .string ⟨#[]⟩, .string ⟨#[]⟩, .string ⟨#[]⟩, .string ⟨#[]⟩, .bool false] 47)).cell? ⟨t, 2, none⟩ = some (.string ⟨#[42, 58, 121, 35, 42]⟩) := (World.cell?_alloc_lt _ _ _ (World.block_lt_of_cell? _ _ e2)).trans e2
      have lt0 : t < y1.heap.size := World.block_lt_of_cell? _ _ e2
      have ne0 : ¬ t = y1.heap.size := by omega
      go_wp2_with fail
      with_reducible refine (kgv2 _).mono ?_
      rintro r y2 ⟨rfl, hy2⟩
      have HKB2 := hid (((HKB1.out.keep (g_alloc g_refl _)).keep hy2).keep (g_alloc g_refl (.cells #[.string ⟨#[]⟩, .string ⟨#[121]⟩, .string ⟨#[]⟩, .string ⟨#[117]⟩, .string ⟨#[97]⟩, .string ⟨#[]⟩, .bool true] 47)))
      have HF2 := hid ((HF1.out.keep hy2).keep (g_alloc g_refl (.cells #[.string ⟨#[]⟩, .string ⟨#[121]⟩, .string ⟨#[]⟩, .string ⟨#[117]⟩, .string ⟨#[97]⟩, .string ⟨#[]⟩, .bool true] 47)))
      have HG2 : Hid (FB (y2.alloc (.cells #[.string ⟨#[]⟩, .string ⟨#[121]⟩, .string ⟨#[]⟩, .string ⟨#[117]⟩, .string ⟨#[97]⟩, .string ⟨#[]⟩, .bool true] 47)) y2.heap.size ⟨⟨#[]⟩, ⟨#[121]⟩, ⟨#[]⟩, ⟨#[117]⟩, ⟨#[97]⟩, ⟨#[]⟩, true⟩) := hid (by simp only [FB]; exact ⟨by go_simp, by go_simp, by go_simp, by go_simp, by go_simp, by go_simp, by go_simp, by simp⟩)
      have hB2 := g_alloc (g_trans (g_alloc hB1 _) hy2) (.cells #[.string ⟨#[]⟩, .string ⟨#[121]⟩, .string ⟨#[]⟩, .string ⟨#[117]⟩, .string ⟨#[97]⟩, .string ⟨#[]⟩, .bool true] 47)
      clear hy2 hB1 HKB1 HF1 e2 es
      generalize y1.heap.size = b5 at *
      go_wp2_with fail
      refine (ks2 g cap _ HKB2.out.2.2.2.2.2.2.2.2.2.2.2.2.2.2.2.2.2 hcap4).mono ?_
      rintro r y3 ⟨⟨A, rfl⟩, hy3⟩
      generalize y2.heap.size = b7 at *
      have HKB3 := hid (HKB2.out.keep hy3)
      have hf3 := HF2.out.keep hy3
      have hg3 := HG2.out.keep hy3
      have hB3 := g_trans hB2 hy3
      clear hy3 hB2 HKB2 HF2 HG2
      simp only [FB] at hf3 hg3
      obtain ⟨f0, f1, f2, f3, f4, f5, f6, f7⟩ := hf3
      obtain ⟨g0, g1, g2, g3, g4, g5, g6, g7⟩ := hg3
      obtain ⟨e0, e1, e2, e3, e4, e5, e6, e7, n0, n1, n2, n3, n4, n5, n6, n7, es, er⟩ := HKB3.out
      obtain ⟨m0, m1, m2, m3, m4, m5, q0, q1, q2, q3, q4, q5, hgs⟩ := sm_mid er
      clear e0 e1 e2 e3 e4 e5 e6 e7 n0 n1 n3 n4 n5 n6 n7 er
      generalize hbi : t + 1 = bi at *
      have hS : y3.cell? ⟨b5, 0, none⟩ = some (.string ⟨#[]⟩) ∧ y3.cell? ⟨b5, 1, none⟩ = some (.string ⟨#[121]⟩) ∧ y3.cell? ⟨b5, 2, none⟩ = some (.string ⟨#[]⟩) ∧ y3.cell? ⟨b5, 3, none⟩ = some (.string ⟨#[]⟩) ∧ y3.cell? ⟨b5, 4, none⟩ = some (.string ⟨#[]⟩) ∧ y3.cell? ⟨b5, 5, none⟩ = some (.string ⟨#[]⟩) ∧ y3.cell? ⟨b5, 6, none⟩ = some (.bool false) ∧ y3.cell? ⟨b7, 0, none⟩ = some (.string ⟨#[]⟩) ∧ y3.cell? ⟨b7, 1, none⟩ = some (.string ⟨#[121]⟩) ∧ y3.cell? ⟨b7, 2, none⟩ = some (.string ⟨#[]⟩) ∧ y3.cell? ⟨b7, 3, none⟩ = some (.string ⟨#[117]⟩) ∧ y3.cell? ⟨b7, 4, none⟩ = some (.string ⟨#[97]⟩) ∧ y3.cell? ⟨b7, 5, none⟩ = some (.string ⟨#[]⟩) ∧ y3.cell? ⟨b7, 6, none⟩ = some (.bool true) ∧ y3.cell? ⟨bi, 2, none⟩ = some (.int .i64 0) ∧ y3.cell? ⟨g, 6, none⟩ = some (.string ⟨#[97]⟩) ∧ y3.cell? ⟨g, 7, none⟩ = some (.string ⟨#[120]⟩) ∧ y3.cell? ⟨g, 8, none⟩ = some (.string ⟨#[114]⟩) ∧ y3.cell? ⟨g, 9, none⟩ = some (.string ⟨#[117]⟩) ∧ y3.cell? ⟨g, 10, none⟩ = some (.string ⟨#[98]⟩) ∧ y3.cell? ⟨g, 11, none⟩ = some (.string ⟨#[]⟩) ∧ y3.cell? ⟨g, 12, none⟩ = some (.string ⟨#[97]⟩) ∧ y3.cell? ⟨g, 13, none⟩ = some (.string ⟨#[121]⟩) ∧ y3.cell? ⟨g, 14, none⟩ = some (.string ⟨#[115]⟩) ∧ y3.cell? ⟨g, 15, none⟩ = some (.string ⟨#[117]⟩) ∧ y3.cell? ⟨g, 16, none⟩ = some (.string ⟨#[97]⟩) ∧ y3.cell? ⟨g, 17, none⟩ = some (.string ⟨#[]⟩) ∧ b5 < y3.heap.size ∧ b7 < y3.heap.size ∧ bi < y3.heap.size ∧ g < y3.heap.size := ⟨f0, f1, f2, f3, f4, f5, f6, g0, g1, g2, g3, g4, g5, g6, n2, m0, m1, m2, m3, m4, m5, q0, q1, q2, q3, q4, q5, f7, g7, es, hgs⟩
      clear f0 f1 f2 f3 f4 f5 f6 f7 g0 g1 g2 g3 g4 g5 g6 g7 m0 m1 m2 m3 m4 m5 q0 q1 q2 q3 q4 q5 hgs
      go_upto_region 13 with fail
      go_cut [92] (fun s wx => s = .bool false ∧ KB wx t g ∧ Below w.heap.size w wx)
      case first =>
        go_region_held3 (fun w' => w'.cell? ⟨b5, 0, none⟩ = some (.string ⟨#[]⟩) ∧ w'.cell? ⟨b5, 1, none⟩ = some (.string ⟨#[121]⟩) ∧ w'.cell? ⟨b5, 2, none⟩ = some (.string ⟨#[]⟩) ∧ w'.cell? ⟨b5, 3, none⟩ = some (.string ⟨#[]⟩) ∧ w'.cell? ⟨b5, 4, none⟩ = some (.string ⟨#[]⟩) ∧ w'.cell? ⟨b5, 5, none⟩ = some (.string ⟨#[]⟩) ∧ w'.cell? ⟨b5, 6, none⟩ = some (.bool false) ∧ w'.cell? ⟨b7, 0, none⟩ = some (.string ⟨#[]⟩) ∧ w'.cell? ⟨b7, 1, none⟩ = some (.string ⟨#[121]⟩) ∧ w'.cell? ⟨b7, 2, none⟩ = some (.string ⟨#[]⟩) ∧ w'.cell? ⟨b7, 3, none⟩ = some (.string ⟨#[117]⟩) ∧ w'.cell? ⟨b7, 4, none⟩ = some (.string ⟨#[97]⟩) ∧ w'.cell? ⟨b7, 5, none⟩ = some (.string ⟨#[]⟩) ∧ w'.cell? ⟨b7, 6, none⟩ = some (.bool true) ∧ w'.cell? ⟨bi, 2, none⟩ = some (.int .i64 0) ∧ w'.cell? ⟨g, 6, none⟩ = some (.string ⟨#[97]⟩) ∧ w'.cell? ⟨g, 7, none⟩ = some (.string ⟨#[120]⟩) ∧ w'.cell? ⟨g, 8, none⟩ = some (.string ⟨#[114]⟩) ∧ w'.cell? ⟨g, 9, none⟩ = some (.string ⟨#[117]⟩) ∧ w'.cell? ⟨g, 10, none⟩ = some (.string ⟨#[98]⟩) ∧ w'.cell? ⟨g, 11, none⟩ = some (.string ⟨#[]⟩) ∧ w'.cell? ⟨g, 12, none⟩ = some (.string ⟨#[97]⟩) ∧ w'.cell? ⟨g, 13, none⟩ = some (.string ⟨#[121]⟩) ∧ w'.cell? ⟨g, 14, none⟩ = some (.string ⟨#[115]⟩) ∧ w'.cell? ⟨g, 15, none⟩ = some (.string ⟨#[117]⟩) ∧ w'.cell? ⟨g, 16, none⟩ = some (.string ⟨#[97]⟩) ∧ w'.cell? ⟨g, 17, none⟩ = some (.string ⟨#[]⟩) ∧ b5 < w'.heap.size ∧ b7 < w'.heap.size ∧ bi < w'.heap.size ∧ g < w'.heap.size) (first | assumption | exact kn_keep (by assumption) (by assumption) | exact kn_keep (g_drew g_refl) (by assumption))
          (first | (go_at_call 23; (with_reducible refine (fprefix_v ⟨#[]⟩ ⟨#[121]⟩ ⟨#[]⟩ ⟨#[]⟩ ⟨#[]⟩ ⟨#[]⟩ false 0 _ kp2).mono ?_); rintro r x1 ⟨rfl, hc1⟩) | (go_at_call 23; (with_reducible refine (fprefix_v ⟨#[]⟩ ⟨#[121]⟩ ⟨#[]⟩ ⟨#[117]⟩ ⟨#[97]⟩ ⟨#[]⟩ true 0 _ kq2).mono ?_); rintro r x2 ⟨rfl, hc2⟩) | (go_at_call 25; (with_reducible refine (kt_a2 _).mono ?_); rintro r x3 ⟨rfl, hc3⟩) | (go_at_call 25; (with_reducible refine (kt_b2 _).mono ?_); rintro r x4 ⟨rfl, hc4⟩) | (go_at_call 25; (with_reducible refine (kt_c2 _).mono ?_); rintro r x5 ⟨rfl, hc5⟩))
        all_goals
          go_wp2_with fail
          go_meet
          exact ⟨rfl, HKB3.out.keep (by repeat (first | (with_reducible exact g_refl) | (with_reducible refine g_drew ?_) | (with_reducible refine g_alloc ?_ _) | (with_reducible refine g_trans ?_ hc5) | (with_reducible refine g_trans ?_ hc4) | (with_reducible refine g_trans ?_ hc3) | (with_reducible refine g_trans ?_ hc2) | (with_reducible refine g_trans ?_ hc1))), g_trans hB3 (by repeat (first | (with_reducible exact g_refl) | (with_reducible refine g_drew ?_) | (with_reducible refine g_alloc ?_ _) | (with_reducible refine g_trans ?_ hc5) | (with_reducible refine g_trans ?_ hc4) | (with_reducible refine g_trans ?_ hc3) | (with_reducible refine g_trans ?_ hc2) | (with_reducible refine g_trans ?_ hc1)))⟩
      case rest =>
        obtain ⟨rfl, hkb, hB⟩ := hcut
        have HKB4 := hid hkb; clear hkb
        go_wp2
        go_roundg (8 - (2 + 1))
        case measure => have := HGK.out; omega
        case rel => exact ⟨2 + 1, rfl, by omega, by go_num, HKB4.out, hB⟩
    · as_aux_lemma =>
      obtain ⟨e0, e1, e2, e3, e4, e5, e6, e7, n0, n1, n2, n3, n4, n5, n6, n7, es, er⟩ := HKB.out
      clear e0 e1 e2 e4 e5 e6 e7 n0 n1 n2 n3 n4 n5 n6 n7 er
      go_wp2_with fail
      refine (fparse_v ⟨#[97, 58, 121, 35, 42]⟩ ⟨#[97]⟩ ⟨#[121]⟩ ⟨#[]⟩ ⟨#[]⟩ ⟨#[]⟩ ⟨#[]⟩ false 0 _ (by decide) kf3).mono ?_
      rintro r y1 ⟨rfl, hy1⟩
      have HKB1 := hid (HKB.out.keep hy1)
      have HF1 : Hid (FB (y1.alloc (.cells #[.string ⟨#[97]⟩, .string ⟨#[121]⟩, .string ⟨#[]⟩, .string ⟨#[]⟩, .string ⟨#[]⟩, .string ⟨#[]⟩, .bool false] 47)) y1.heap.size ⟨⟨#[97]⟩, ⟨#[121]⟩, ⟨#[]⟩, ⟨#[]⟩, ⟨#[]⟩, ⟨#[]⟩, false⟩) := hid (by simp only [FB]; exact ⟨by go_simp, by go_simp, by go_simp, by go_simp, by go_simp, by go_simp, by go_simp, by simp⟩)
      clear e3 es
      obtain ⟨e0, e1, e2, e3, e4, e5, e6, e7, n0, n1, n2, n3, n4, n5, n6, n7, es, er⟩ := HKB1.out
      clear e0 e1 e2 e4 e5 e6 e7 n0 n1 n2 n3 n4 n5 n6 n7 er
      have hB1 := g_trans hB hy1
      clear hy1 hB HKB
      have e3a : (y1.alloc (.cells #[.string ⟨#[97]⟩, .string ⟨#[121]⟩, .string ⟨#[]⟩, .string ⟨#[]⟩, .string ⟨#[]⟩, .string ⟨#[]⟩, .bool false] 47)).cell? ⟨t, 3, none⟩ = some (.string ⟨#[97, 58, 121, 35, 42]⟩) := (World.cell?_alloc_lt _ _ _ (World.block_lt_of_cell? _ _ e3)).trans e3
      have lt0 : t < y1.heap.size := World.block_lt_of_cell? _ _ e3
      have ne0 : ¬ t = y1.heap.size := by omega
      go_wp2_with fail
      with_reducible refine (kgv3 _).mono ?_
      rintro r y2 ⟨rfl, hy2⟩
      have HKB2 := hid (((HKB1.out.keep (g_alloc g_refl _)).keep hy2).keep (g_alloc g_refl (.cells #[.string ⟨#[97]⟩, .string ⟨#[121]⟩, .string ⟨#[]⟩, .string ⟨#[117]⟩, .string ⟨#[97]⟩, .string ⟨#[]⟩, .bool true] 47)))
      have HF2 := hid ((HF1.out.keep hy2).keep (g_alloc g_refl (.cells #[.string ⟨#[97]⟩, .string ⟨#[121]⟩, .string ⟨#[]⟩, .string ⟨#[117]⟩, .string ⟨#[97]⟩, .string ⟨#[]⟩, .bool true] 47)))
      have HG2 : Hid (FB (y2.alloc (.cells #[.string ⟨#[97]⟩, .string ⟨#[121]⟩, .string ⟨#[]⟩, .string ⟨#[117]⟩, .string ⟨#[97]⟩, .string ⟨#[]⟩, .bool true] 47)) y2.heap.size ⟨⟨#[97]⟩, ⟨#[121]⟩, ⟨#[]⟩, ⟨#[117]⟩, ⟨#[97]⟩, ⟨#[]⟩, true⟩) := hid (by simp only [FB]; exact ⟨by go_simp, by go_simp, by go_simp, by go_simp, by go_simp, by go_simp, by go_simp, by simp⟩)
      have hB2 := g_alloc (g_trans (g_alloc hB1 _) hy2) (.cells #[.string ⟨#[97]⟩, .string ⟨#[121]⟩, .string ⟨#[]⟩, .string ⟨#[117]⟩, .string ⟨#[97]⟩, .string ⟨#[]⟩, .bool true] 47)
      clear hy2 hB1 HKB1 HF1 e3 es
      generalize y1.heap.size = b5 at *
      go_wp2_with fail
      refine (ks3 g cap _ HKB2.out.2.2.2.2.2.2.2.2.2.2.2.2.2.2.2.2.2 hcap4).mono ?_
      rintro r y3 ⟨⟨A, rfl⟩, hy3⟩
      generalize y2.heap.size = b7 at *
      have HKB3 := hid (HKB2.out.keep hy3)
      have hf3 := HF2.out.keep hy3
      have hg3 := HG2.out.keep hy3
      have hB3 := g_trans hB2 hy3
      clear hy3 hB2 HKB2 HF2 HG2
      simp only [FB] at hf3 hg3
      obtain ⟨f0, f1, f2, f3, f4, f5, f6, f7⟩ := hf3
      obtain ⟨g0, g1, g2, g3, g4, g5, g6, g7⟩ := hg3
      obtain ⟨e0, e1, e2, e3, e4, e5, e6, e7, n0, n1, n2, n3, n4, n5, n6, n7, es, er⟩ := HKB3.out
      obtain ⟨m0, m1, m2, m3, m4, m5, q0, q1, q2, q3, q4, q5, hgs⟩ := sm_mid er
      clear e0 e1 e2 e3 e4 e5 e6 e7 n0 n1 n2 n4 n5 n6 n7 er
      generalize hbi : t + 1 = bi at *
      have hS : y3.cell? ⟨b5, 0, none⟩ = some (.string ⟨#[97]⟩) ∧ y3.cell? ⟨b5, 1, none⟩ = some (.string ⟨#[121]⟩) ∧ y3.cell? ⟨b5, 2, none⟩ = some (.string ⟨#[]⟩) ∧ y3.cell? ⟨b5, 3, none⟩ = some (.string ⟨#[]⟩) ∧ y3.cell? ⟨b5, 4, none⟩ = some (.string ⟨#[]⟩) ∧ y3.cell? ⟨b5, 5, none⟩ = some (.string ⟨#[]⟩) ∧ y3.cell? ⟨b5, 6, none⟩ = some (.bool false) ∧ y3.cell? ⟨b7, 0, none⟩ = some (.string ⟨#[97]⟩) ∧ y3.cell? ⟨b7, 1, none⟩ = some (.string ⟨#[121]⟩) ∧ y3.cell? ⟨b7, 2, none⟩ = some (.string ⟨#[]⟩) ∧ y3.cell? ⟨b7, 3, none⟩ = some (.string ⟨#[117]⟩) ∧ y3.cell? ⟨b7, 4, none⟩ = some (.string ⟨#[97]⟩) ∧ y3.cell? ⟨b7, 5, none⟩ = some (.string ⟨#[]⟩) ∧ y3.cell? ⟨b7, 6, none⟩ = some (.bool true) ∧ y3.cell? ⟨bi, 3, none⟩ = some (.int .i64 2) ∧ y3.cell? ⟨g, 6, none⟩ = some (.string ⟨#[97]⟩) ∧ y3.cell? ⟨g, 7, none⟩ = some (.string ⟨#[120]⟩) ∧ y3.cell? ⟨g, 8, none⟩ = some (.string ⟨#[114]⟩) ∧ y3.cell? ⟨g, 9, none⟩ = some (.string ⟨#[117]⟩) ∧ y3.cell? ⟨g, 10, none⟩ = some (.string ⟨#[98]⟩) ∧ y3.cell? ⟨g, 11, none⟩ = some (.string ⟨#[]⟩) ∧ y3.cell? ⟨g, 12, none⟩ = some (.string ⟨#[97]⟩) ∧ y3.cell? ⟨g, 13, none⟩ = some (.string ⟨#[121]⟩) ∧ y3.cell? ⟨g, 14, none⟩ = some (.string ⟨#[115]⟩) ∧ y3.cell? ⟨g, 15, none⟩ = some (.string ⟨#[117]⟩) ∧ y3.cell? ⟨g, 16, none⟩ = some (.string ⟨#[97]⟩) ∧ y3.cell? ⟨g, 17, none⟩ = some (.string ⟨#[]⟩) ∧ b5 < y3.heap.size ∧ b7 < y3.heap.size ∧ bi < y3.heap.size ∧ g < y3.heap.size := ⟨f0, f1, f2, f3, f4, f5, f6, g0, g1, g2, g3, g4, g5, g6, n3, m0, m1, m2, m3, m4, m5, q0, q1, q2, q3, q4, q5, f7, g7, es, hgs⟩
      clear f0 f1 f2 f3 f4 f5 f6 f7 g0 g1 g2 g3 g4 g5 g6 g7 m0 m1 m2 m3 m4 m5 q0 q1 q2 q3 q4 q5 hgs
      go_upto_region 13 with fail
      go_cut [92] (fun s wx => s = .bool false ∧ KB wx t g ∧ Below w.heap.size w wx)
      case first =>
        go_region_held3 (fun w' => w'.cell? ⟨b5, 0, none⟩ = some (.string ⟨#[97]⟩) ∧ w'.cell? ⟨b5, 1, none⟩ = some (.string ⟨#[121]⟩) ∧ w'.cell? ⟨b5, 2, none⟩ = some (.string ⟨#[]⟩) ∧ w'.cell? ⟨b5, 3, none⟩ = some (.string ⟨#[]⟩) ∧ w'.cell? ⟨b5, 4, none⟩ = some (.string ⟨#[]⟩) ∧ w'.cell? ⟨b5, 5, none⟩ = some (.string ⟨#[]⟩) ∧ w'.cell? ⟨b5, 6, none⟩ = some (.bool false) ∧ w'.cell? ⟨b7, 0, none⟩ = some (.string ⟨#[97]⟩) ∧ w'.cell? ⟨b7, 1, none⟩ = some (.string ⟨#[121]⟩) ∧ w'.cell? ⟨b7, 2, none⟩ = some (.string ⟨#[]⟩) ∧ w'.cell? ⟨b7, 3, none⟩ = some (.string ⟨#[117]⟩) ∧ w'.cell? ⟨b7, 4, none⟩ = some (.string ⟨#[97]⟩) ∧ w'.cell? ⟨b7, 5, none⟩ = some (.string ⟨#[]⟩) ∧ w'.cell? ⟨b7, 6, none⟩ = some (.bool true) ∧ w'.cell? ⟨bi, 3, none⟩ = some (.int .i64 2) ∧ w'.cell? ⟨g, 6, none⟩ = some (.string ⟨#[97]⟩) ∧ w'.cell? ⟨g, 7, none⟩ = some (.string ⟨#[120]⟩) ∧ w'.cell? ⟨g, 8, none⟩ = some (.string ⟨#[114]⟩) ∧ w'.cell? ⟨g, 9, none⟩ = some (.string ⟨#[117]⟩) ∧ w'.cell? ⟨g, 10, none⟩ = some (.string ⟨#[98]⟩) ∧ w'.cell? ⟨g, 11, none⟩ = some (.string ⟨#[]⟩) ∧ w'.cell? ⟨g, 12, none⟩ = some (.string ⟨#[97]⟩) ∧ w'.cell? ⟨g, 13, none⟩ = some (.string ⟨#[121]⟩) ∧ w'.cell? ⟨g, 14, none⟩ = some (.string ⟨#[115]⟩) ∧ w'.cell? ⟨g, 15, none⟩ = some (.string ⟨#[117]⟩) ∧ w'.cell? ⟨g, 16, none⟩ = some (.string ⟨#[97]⟩) ∧ w'.cell? ⟨g, 17, none⟩ = some (.string ⟨#[]⟩) ∧ b5 < w'.heap.size ∧ b7 < w'.heap.size ∧ bi < w'.heap.size ∧ g < w'.heap.size) (first | assumption | exact kn_keep (by assumption) (by assumption) | exact kn_keep (g_drew g_refl) (by assumption))
          (first | (go_at_call 23; (with_reducible refine (fprefix_v ⟨#[97]⟩ ⟨#[121]⟩ ⟨#[]⟩ ⟨#[]⟩ ⟨#[]⟩ ⟨#[]⟩ false 2 _ kp3).mono ?_); rintro r x1 ⟨rfl, hc1⟩) | (go_at_call 23; (with_reducible refine (fprefix_v ⟨#[97]⟩ ⟨#[121]⟩ ⟨#[]⟩ ⟨#[117]⟩ ⟨#[97]⟩ ⟨#[]⟩ true 2 _ kq3).mono ?_); rintro r x2 ⟨rfl, hc2⟩) | (go_at_call 25; (with_reducible refine (kt_a3 _).mono ?_); rintro r x3 ⟨rfl, hc3⟩) | (go_at_call 25; (with_reducible refine (kt_b3 _).mono ?_); rintro r x4 ⟨rfl, hc4⟩) | (go_at_call 25; (with_reducible refine (kt_c3 _).mono ?_); rintro r x5 ⟨rfl, hc5⟩))
        all_goals
          go_wp2_with fail
          go_meet
          exact ⟨rfl, HKB3.out.keep (by repeat (first | (with_reducible exact g_refl) | (with_reducible refine g_drew ?_) | (with_reducible refine g_alloc ?_ _) | (with_reducible refine g_trans ?_ hc5) | (with_reducible refine g_trans ?_ hc4) | (with_reducible refine g_trans ?_ hc3) | (with_reducible refine g_trans ?_ hc2) | (with_reducible refine g_trans ?_ hc1))), g_trans hB3 (by repeat (first | (with_reducible exact g_refl) | (with_reducible refine g_drew ?_) | (with_reducible refine g_alloc ?_ _) | (with_reducible refine g_trans ?_ hc5) | (with_reducible refine g_trans ?_ hc4) | (with_reducible refine g_trans ?_ hc3) | (with_reducible refine g_trans ?_ hc2) | (with_reducible refine g_trans ?_ hc1)))⟩
      case rest =>
        obtain ⟨rfl, hkb, hB⟩ := hcut
        have HKB4 := hid hkb; clear hkb
        go_wp2
        go_roundg (8 - (3 + 1))
        case measure => have := HGK.out; omega
        case rel => exact ⟨3 + 1, rfl, by omega, by go_num, HKB4.out, hB⟩
    · as_aux_lemma =>
      obtain ⟨e0, e1, e2, e3, e4, e5, e6, e7, n0, n1, n2, n3, n4, n5, n6, n7, es, er⟩ := HKB.out
      clear e0 e1 e2 e3 e5 e6 e7 n0 n1 n2 n3 n4 n5 n6 n7 er
      go_wp2_with fail
      refine (fparse_v ⟨#[42, 58, 42, 35, 115]⟩ ⟨#[]⟩ ⟨#[]⟩ ⟨#[115]⟩ ⟨#[]⟩ ⟨#[]⟩ ⟨#[]⟩ false 0 _ (by decide) kf4).mono ?_
      rintro r y1 ⟨rfl, hy1⟩
      have HKB1 := hid (HKB.out.keep hy1)
      have HF1 : Hid (FB (y1.alloc (.cells #[.string ⟨#[]⟩, .string ⟨#[]⟩, .string ⟨#[115]⟩, .string ⟨#[]⟩, .string ⟨#[]⟩, .string ⟨#[]⟩, .bool false] 47)) y1.heap.size ⟨⟨#[]⟩, ⟨#[]⟩, ⟨#[115]⟩, ⟨#[]⟩, ⟨#[]⟩, ⟨#[]⟩, false⟩) := hid (by simp only [FB]; exact ⟨by go_simp, by go_simp, by go_simp, by go_simp, by go_simp, by go_simp, by go_simp, by simp⟩)
      clear e4 es
      obtain ⟨e0, e1, e2, e3, e4, e5, e6, e7, n0, n1, n2, n3, n4, n5, n6, n7, es, er⟩ := HKB1.out
      clear e0 e1 e2 e3 e5 e6 e7 n0 n1 n2 n3 n4 n5 n6 n7 er
      have hB1 := g_trans hB hy1
      clear hy1 hB HKB
      have e4a : (y1.alloc (.cells #[.string ⟨#[]⟩, .string ⟨#[]⟩, .string ⟨#[115]⟩, .string ⟨#[]⟩, .string ⟨#[]⟩, .string ⟨#[]⟩, .bool false] 47)).cell? ⟨t, 4, none⟩ = some (.string ⟨#[42, 58, 42, 35, 115]⟩) := (World.cell?_alloc_lt _ _ _ (World.block_lt_of_cell? _ _ e4)).trans e4
      have lt0 : t < y1.heap.size := World.block_lt_of_cell? _ _ e4
      have ne0 : ¬ t = y1.heap.size := by omega
      go_wp2_with fail
      with_reducible refine (kgv4 _).mono ?_
      rintro r y2 ⟨rfl, hy2⟩
      have HKB2 := hid (((HKB1.out.keep (g_alloc g_refl _)).keep hy2).keep (g_alloc g_refl (.cells #[.string ⟨#[]⟩, .string ⟨#[]⟩, .string ⟨#[115]⟩, .string ⟨#[117]⟩, .string ⟨#[97]⟩, .string ⟨#[]⟩, .bool true] 47)))
      have HF2 := hid ((HF1.out.keep hy2).keep (g_alloc g_refl (.cells #[.string ⟨#[]⟩, .string ⟨#[]⟩, .string ⟨#[115]⟩, .string ⟨#[117]⟩, .string ⟨#[97]⟩, .string ⟨#[]⟩, .bool true] 47)))
      have HG2 : Hid (FB (y2.alloc (.cells #[.string ⟨#[]⟩, .string ⟨#[]⟩, .string ⟨#[115]⟩, .string ⟨#[117]⟩, .string ⟨#[97]⟩, .string ⟨#[]⟩, .bool true] 47)) y2.heap.size ⟨⟨#[]⟩, ⟨#[]⟩, ⟨#[115]⟩, ⟨#[117]⟩, ⟨#[97]⟩, ⟨#[]⟩, true⟩) := hid (by simp only [FB]; exact ⟨by go_simp, by go_simp, by go_simp, by go_simp, by go_simp, by go_simp, by go_simp, by simp⟩)
      have hB2 := g_alloc (g_trans (g_alloc hB1 _) hy2) (.cells #[.string ⟨#[]⟩, .string ⟨#[]⟩, .string ⟨#[115]⟩, .string ⟨#[117]⟩, .string ⟨#[97]⟩, .string ⟨#[]⟩, .bool true] 47)
      clear hy2 hB1 HKB1 HF1 e4 es
      generalize y1.heap.size = b5 at *
      go_wp2_with fail
      refine (ks4 g cap _ HKB2.out.2.2.2.2.2.2.2.2.2.2.2.2.2.2.2.2.2 hcap4).mono ?_
      rintro r y3 ⟨⟨A, rfl⟩, hy3⟩
      generalize y2.heap.size = b7 at *
      have HKB3 := hid (HKB2.out.keep hy3)
      have hf3 := HF2.out.keep hy3
      have hg3 := HG2.out.keep hy3
      have hB3 := g_trans hB2 hy3
      clear hy3 hB2 HKB2 HF2 HG2
      simp only [FB] at hf3 hg3
      obtain ⟨f0, f1, f2, f3, f4, f5, f6, f7⟩ := hf3
      obtain ⟨g0, g1, g2, g3, g4, g5, g6, g7⟩ := hg3
      obtain ⟨e0, e1, e2, e3, e4, e5, e6, e7, n0, n1, n2, n3, n4, n5, n6, n7, es, er⟩ := HKB3.out
      obtain ⟨m0, m1, m2, m3, m4, m5, q0, q1, q2, q3, q4, q5, hgs⟩ := sm_mid er
      clear e0 e1 e2 e3 e4 e5 e6 e7 n0 n1 n2 n3 n5 n6 n7 er
      generalize hbi : t + 1 = bi at *
      have hS : y3.cell? ⟨b5, 0, none⟩ = some (.string ⟨#[]⟩) ∧ y3.cell? ⟨b5, 1, none⟩ = some (.string ⟨#[]⟩) ∧ y3.cell? ⟨b5, 2, none⟩ = some (.string ⟨#[115]⟩) ∧ y3.cell? ⟨b5, 3, none⟩ = some (.string ⟨#[]⟩) ∧ y3.cell? ⟨b5, 4, none⟩ = some (.string ⟨#[]⟩) ∧ y3.cell? ⟨b5, 5, none⟩ = some (.string ⟨#[]⟩) ∧ y3.cell? ⟨b5, 6, none⟩ = some (.bool false) ∧ y3.cell? ⟨b7, 0, none⟩ = some (.string ⟨#[]⟩) ∧ y3.cell? ⟨b7, 1, none⟩ = some (.string ⟨#[]⟩) ∧ y3.cell? ⟨b7, 2, none⟩ = some (.string ⟨#[115]⟩) ∧ y3.cell? ⟨b7, 3, none⟩ = some (.string ⟨#[117]⟩) ∧ y3.cell? ⟨b7, 4, none⟩ = some (.string ⟨#[97]⟩) ∧ y3.cell? ⟨b7, 5, none⟩ = some (.string ⟨#[]⟩) ∧ y3.cell? ⟨b7, 6, none⟩ = some (.bool true) ∧ y3.cell? ⟨bi, 4, none⟩ = some (.int .i64 0) ∧ y3.cell? ⟨g, 6, none⟩ = some (.string ⟨#[97]⟩) ∧ y3.cell? ⟨g, 7, none⟩ = some (.string ⟨#[120]⟩) ∧ y3.cell? ⟨g, 8, none⟩ = some (.string ⟨#[114]⟩) ∧ y3.cell? ⟨g, 9, none⟩ = some (.string ⟨#[117]⟩) ∧ y3.cell? ⟨g, 10, none⟩ = some (.string ⟨#[98]⟩) ∧ y3.cell? ⟨g, 11, none⟩ = some (.string ⟨#[]⟩) ∧ y3.cell? ⟨g, 12, none⟩ = some (.string ⟨#[97]⟩) ∧ y3.cell? ⟨g, 13, none⟩ = some (.string ⟨#[121]⟩) ∧ y3.cell? ⟨g, 14, none⟩ = some (.string ⟨#[115]⟩) ∧ y3.cell? ⟨g, 15, none⟩ = some (.string ⟨#[117]⟩) ∧ y3.cell? ⟨g, 16, none⟩ = some (.string ⟨#[97]⟩) ∧ y3.cell? ⟨g, 17, none⟩ = some (.string ⟨#[]⟩) ∧ b5 < y3.heap.size ∧ b7 < y3.heap.size ∧ bi < y3.heap.size ∧ g < y3.heap.size := ⟨f0, f1, f2, f3, f4, f5, f6, g0, g1, g2, g3, g4, g5, g6, n4, m0, m1, m2, m3, m4, m5, q0, q1, q2, q3, q4, q5, f7, g7, es, hgs⟩
      clear f0 f1 f2 f3 f4 f5 f6 f7 g0 g1 g2 g3 g4 g5 g6 g7 m0 m1 m2 m3 m4 m5 q0 q1 q2 q3 q4 q5 hgs
      go_upto_region 13 with fail
      go_cut [92] (fun s wx => s = .bool false ∧ KB wx t g ∧ Below w.heap.size w wx)
      case first =>
        go_region_held3 (fun w' => w'.cell? ⟨b5, 0, none⟩ = some (.string ⟨#[]⟩) ∧ w'.cell? ⟨b5, 1, none⟩ = some (.string ⟨#[]⟩) ∧ w'.cell? ⟨b5, 2, none⟩ = some (.string ⟨#[115]⟩) ∧ w'.cell? ⟨b5, 3, none⟩ = some (.string ⟨#[]⟩) ∧ w'.cell? ⟨b5, 4, none⟩ = some (.string ⟨#[]⟩) ∧ w'.cell? ⟨b5, 5, none⟩ = some (.string ⟨#[]⟩) ∧ w'.cell? ⟨b5, 6, none⟩ = some (.bool false) ∧ w'.cell? ⟨b7, 0, none⟩ = some (.string ⟨#[]⟩) ∧ w'.cell? ⟨b7, 1, none⟩ = some (.string ⟨#[]⟩) ∧ w'.cell? ⟨b7, 2, none⟩ = some (.string ⟨#[115]⟩) ∧ w'.cell? ⟨b7, 3, none⟩ = some (.string ⟨#[117]⟩) ∧ w'.cell? ⟨b7, 4, none⟩ = some (.string ⟨#[97]⟩) ∧ w'.cell? ⟨b7, 5, none⟩ = some (.string ⟨#[]⟩) ∧ w'.cell? ⟨b7, 6, none⟩ = some (.bool true) ∧ w'.cell? ⟨bi, 4, none⟩ = some (.int .i64 0) ∧ w'.cell? ⟨g, 6, none⟩ = some (.string ⟨#[97]⟩) ∧ w'.cell? ⟨g, 7, none⟩ = some (.string ⟨#[120]⟩) ∧ w'.cell? ⟨g, 8, none⟩ = some (.string ⟨#[114]⟩) ∧ w'.cell? ⟨g, 9, none⟩ = some (.string ⟨#[117]⟩) ∧ w'.cell? ⟨g, 10, none⟩ = some (.string ⟨#[98]⟩) ∧ w'.cell? ⟨g, 11, none⟩ = some (.string ⟨#[]⟩) ∧ w'.cell? ⟨g, 12, none⟩ = some (.string ⟨#[97]⟩) ∧ w'.cell? ⟨g, 13, none⟩ = some (.string ⟨#[121]⟩) ∧ w'.cell? ⟨g, 14, none⟩ = some (.string ⟨#[115]⟩) ∧ w'.cell? ⟨g, 15, none⟩ = some (.string ⟨#[117]⟩) ∧ w'.cell? ⟨g, 16, none⟩ = some (.string ⟨#[97]⟩) ∧ w'.cell? ⟨g, 17, none⟩ = some (.string ⟨#[]⟩) ∧ b5 < w'.heap.size ∧ b7 < w'.heap.size ∧ bi < w'.heap.size ∧ g < w'.heap.size) (first | assumption | exact kn_keep (by assumption) (by assumption) | exact kn_keep (g_drew g_refl) (by assumption))
          (first | (go_at_call 23; (with_reducible refine (fprefix_v ⟨#[]⟩ ⟨#[]⟩ ⟨#[115]⟩ ⟨#[]⟩ ⟨#[]⟩ ⟨#[]⟩ false 0 _ kp4).mono ?_); rintro r x1 ⟨rfl, hc1⟩) | (go_at_call 23; (with_reducible refine (fprefix_v ⟨#[]⟩ ⟨#[]⟩ ⟨#[115]⟩ ⟨#[117]⟩ ⟨#[97]⟩ ⟨#[]⟩ true 0 _ kq4).mono ?_); rintro r x2 ⟨rfl, hc2⟩) | (go_at_call 25; (with_reducible refine (kt_a4 _).mono ?_); rintro r x3 ⟨rfl, hc3⟩) | (go_at_call 25; (with_reducible refine (kt_b4 _).mono ?_); rintro r x4 ⟨rfl, hc4⟩) | (go_at_call 25; (with_reducible refine (kt_c4 _).mono ?_); rintro r x5 ⟨rfl, hc5⟩))
        all_goals
          go_wp2_with fail
          go_meet
          exact ⟨rfl, HKB3.out.keep (by repeat (first | (with_reducible exact g_refl) | (with_reducible refine g_drew ?_) | (with_reducible refine g_alloc ?_ _) | (with_reducible refine g_trans ?_ hc5) | (with_reducible refine g_trans ?_ hc4) | (with_reducible refine g_trans ?_ hc3) | (with_reducible refine g_trans ?_ hc2) | (with_reducible refine g_trans ?_ hc1))), g_trans hB3 (by repeat (first | (with_reducible exact g_refl) | (with_reducible refine g_drew ?_) | (with_reducible refine g_alloc ?_ _) | (with_reducible refine g_trans ?_ hc5) | (with_reducible refine g_trans ?_ hc4) | (with_reducible refine g_trans ?_ hc3) | (with_reducible refine g_trans ?_ hc2) | (with_reducible refine g_trans ?_ hc1)))⟩
      case rest =>
        obtain ⟨rfl, hkb, hB⟩ := hcut
        have HKB4 := hid hkb; clear hkb
        go_wp2
        go_roundg (8 - (4 + 1))
        case measure => have := HGK.out; omega
        case rel => exact ⟨4 + 1, rfl, by omega, by go_num, HKB4.out, hB⟩
    · as_aux_lemma =>
      obtain ⟨e0, e1, e2, e3, e4, e5, e6, e7, n0, n1, n2, n3, n4, n5, n6, n7, es, er⟩ := HKB.out
      clear e0 e1 e2 e3 e4 e6 e7 n0 n1 n2 n3 n4 n5 n6 n7 er
      go_wp2_with fail
      refine (fparse_v ⟨#[97, 58, 42, 35, 115]⟩ ⟨#[97]⟩ ⟨#[]⟩ ⟨#[115]⟩ ⟨#[]⟩ ⟨#[]⟩ ⟨#[]⟩ false 0 _ (by decide) kf5).mono ?_
      rintro r y1 ⟨rfl, hy1⟩
      have HKB1 := hid (HKB.out.keep hy1)
      have HF1 : Hid (FB (y1.alloc (.cells #[.string ⟨#[97]⟩, .string ⟨#[]⟩, .string ⟨#[115]⟩, .string ⟨#[]⟩, .string ⟨#[]⟩, .string ⟨#[]⟩, .bool false] 47)) y1.heap.size ⟨⟨#[97]⟩, ⟨#[]⟩, ⟨#[115]⟩, ⟨#[]⟩, ⟨#[]⟩, ⟨#[]⟩, false⟩) := hid (by simp only [FB]; exact ⟨by go_simp, by go_simp, by go_simp, by go_simp, by go_simp, by go_simp, by go_simp, by simp⟩)
      clear e5 es
      obtain ⟨e0, e1, e2, e3, e4, e5, e6, e7, n0, n1, n2, n3, n4, n5, n6, n7, es, er⟩ := HKB1.out
      clear e0 e1 e2 e3 e4 e6 e7 n0 n1 n2 n3 n4 n5 n6 n7 er
      have hB1 := g_trans hB hy1
      clear hy1 hB HKB
      have e5a : (y1.alloc (.cells #[.string ⟨#[97]⟩, .string ⟨#[]⟩, .string ⟨#[115]⟩, .string ⟨#[]⟩, .string ⟨#[]⟩, .string ⟨#[]⟩, .bool false] 47)).cell? ⟨t, 5, none⟩ = some (.string ⟨#[97, 58, 42, 35, 115]⟩) := (World.cell?_alloc_lt _ _ _ (World.block_lt_of_cell? _ _ e5)).trans e5
      have lt0 : t < y1.heap.size := World.block_lt_of_cell? _ _ e5
      have ne0 : ¬ t = y1.heap.size := by omega
      go_wp2_with fail
      with_reducible refine (kgv5 _).mono ?_
      rintro r y2 ⟨rfl, hy2⟩
      have HKB2 := hid (((HKB1.out.keep (g_alloc g_refl _)).keep hy2).keep (g_alloc g_refl (.cells #[.string ⟨#[97]⟩, .string ⟨#[]⟩, .string ⟨#[115]⟩, .string ⟨#[117]⟩, .string ⟨#[97]⟩, .string ⟨#[]⟩, .bool true] 47)))
      have HF2 := hid ((HF1.out.keep hy2).keep (g_alloc g_refl (.cells #[.string ⟨#[97]⟩, .string ⟨#[]⟩, .string ⟨#[115]⟩, .string ⟨#[117]⟩, .string ⟨#[97]⟩, .string ⟨#[]⟩, .bool true] 47)))
      have HG2 : Hid (FB (y2.alloc (.cells #[.string ⟨#[97]⟩, .string ⟨#[]⟩, .string ⟨#[115]⟩, .string ⟨#[117]⟩, .string ⟨#[97]⟩, .string ⟨#[]⟩, .bool true] 47)) y2.heap.size ⟨⟨#[97]⟩, ⟨#[]⟩, ⟨#[115]⟩, ⟨#[117]⟩, ⟨#[97]⟩, ⟨#[]⟩, true⟩) := hid (by simp only [FB]; exact ⟨by go_simp, by go_simp, by go_simp, by go_simp, by go_simp, by go_simp, by go_simp, by simp⟩)
      have hB2 := g_alloc (g_trans (g_alloc hB1 _) hy2) (.cells #[.string ⟨#[97]⟩, .string ⟨#[]⟩, .string ⟨#[115]⟩, .string ⟨#[117]⟩, .string ⟨#[97]⟩, .string ⟨#[]⟩, .bool true] 47)
      clear hy2 hB1 HKB1 HF1 e5 es
      generalize y1.heap.size = b5 at *
      go_wp2_with fail
      refine (ks5 g cap _ HKB2.out.2.2.2.2.2.2.2.2.2.2.2.2.2.2.2.2.2 hcap4).mono ?_
      rintro r y3 ⟨⟨A, rfl⟩, hy3⟩
      generalize y2.heap.size = b7 at *
      have HKB3 := hid (HKB2.out.keep hy3)
      have hf3 := HF2.out.keep hy3
      have hg3 := HG2.out.keep hy3
      have hB3 := g_trans hB2 hy3
      clear hy3 hB2 HKB2 HF2 HG2
      simp only [FB] at hf3 hg3
      obtain ⟨f0, f1, f2, f3, f4, f5, f6, f7⟩ := hf3
      obtain ⟨g0, g1, g2, g3, g4, g5, g6, g7⟩ := hg3
      obtain ⟨e0, e1, e2, e3, e4, e5, e6, e7, n0, n1, n2, n3, n4, n5, n6, n7, es, er⟩ := HKB3.out
      obtain ⟨m0, m1, m2, m3, m4, m5, q0, q1, q2, q3, q4, q5, hgs⟩ := sm_mid er
      clear e0 e1 e2 e3 e4 e5 e6 e7 n0 n1 n2 n3 n4 n6 n7 er
      generalize hbi : t + 1 = bi at *
      have hS : y3.cell? ⟨b5, 0, none⟩ = some (.string ⟨#[97]⟩) ∧ y3.cell? ⟨b5, 1, none⟩ = some (.string ⟨#[]⟩) ∧ y3.cell? ⟨b5, 2, none⟩ = some (.string ⟨#[115]⟩) ∧ y3.cell? ⟨b5, 3, none⟩ = some (.string ⟨#[]⟩) ∧ y3.cell? ⟨b5, 4, none⟩ = some (.string ⟨#[]⟩) ∧ y3.cell? ⟨b5, 5, none⟩ = some (.string ⟨#[]⟩) ∧ y3.cell? ⟨b5, 6, none⟩ = some (.bool false) ∧ y3.cell? ⟨b7, 0, none⟩ = some (.string ⟨#[97]⟩) ∧ y3.cell? ⟨b7, 1, none⟩ = some (.string ⟨#[]⟩) ∧ y3.cell? ⟨b7, 2, none⟩ = some (.string ⟨#[115]⟩) ∧ y3.cell? ⟨b7, 3, none⟩ = some (.string ⟨#[117]⟩) ∧ y3.cell? ⟨b7, 4, none⟩ = some (.string ⟨#[97]⟩) ∧ y3.cell? ⟨b7, 5, none⟩ = some (.string ⟨#[]⟩) ∧ y3.cell? ⟨b7, 6, none⟩ = some (.bool true) ∧ y3.cell? ⟨bi, 5, none⟩ = some (.int .i64 1) ∧ y3.cell? ⟨g, 6, none⟩ = some (.string ⟨#[97]⟩) ∧ y3.cell? ⟨g, 7, none⟩ = some (.string ⟨#[120]⟩) ∧ y3.cell? ⟨g, 8, none⟩ = some (.string ⟨#[114]⟩) ∧ y3.cell? ⟨g, 9, none⟩ = some (.string ⟨#[117]⟩) ∧ y3.cell? ⟨g, 10, none⟩ = some (.string ⟨#[98]⟩) ∧ y3.cell? ⟨g, 11, none⟩ = some (.string ⟨#[]⟩) ∧ y3.cell? ⟨g, 12, none⟩ = some (.string ⟨#[97]⟩) ∧ y3.cell? ⟨g, 13, none⟩ = some (.string ⟨#[121]⟩) ∧ y3.cell? ⟨g, 14, none⟩ = some (.string ⟨#[115]⟩) ∧ y3.cell? ⟨g, 15, none⟩ = some (.string ⟨#[117]⟩) ∧ y3.cell? ⟨g, 16, none⟩ = some (.string ⟨#[97]⟩) ∧ y3.cell? ⟨g, 17, none⟩ = some (.string ⟨#[]⟩) ∧ b5 < y3.heap.size ∧ b7 < y3.heap.size ∧ bi < y3.heap.size ∧ g < y3.heap.size := ⟨f0, f1, f2, f3, f4, f5, f6, g0, g1, g2, g3, g4, g5, g6, n5, m0, m1, m2, m3, m4, m5, q0, q1, q2, q3, q4, q5, f7, g7, es, hgs⟩
      clear f0 f1 f2 f3 f4 f5 f6 f7 g0 g1 g2 g3 g4 g5 g6 g7 m0 m1 m2 m3 m4 m5 q0 q1 q2 q3 q4 q5 hgs
      go_upto_region 13 with fail
      go_cut [92] (fun s wx => s = .bool false ∧ KB wx t g ∧ Below w.heap.size w wx)
      case first =>
        go_region_held3 (fun w' => w'.cell? ⟨b5, 0, none⟩ = some (.string ⟨#[97]⟩) ∧ w'.cell? ⟨b5, 1, none⟩ = some (.string ⟨#[]⟩) ∧ w'.cell? ⟨b5, 2, none⟩ = some (.string ⟨#[115]⟩) ∧ w'.cell? ⟨b5, 3, none⟩ = some (.string ⟨#[]⟩) ∧ w'.cell? ⟨b5, 4, none⟩ = some (.string ⟨#[]⟩) ∧ w'.cell? ⟨b5, 5, none⟩ = some (.string ⟨#[]⟩) ∧ w'.cell? ⟨b5, 6, none⟩ = some (.bool false) ∧ w'.cell? ⟨b7, 0, none⟩ = some (.string ⟨#[97]⟩) ∧ w'.cell? ⟨b7, 1, none⟩ = some (.string ⟨#[]⟩) ∧ w'.cell? ⟨b7, 2, none⟩ = some (.string ⟨#[115]⟩) ∧ w'.cell? ⟨b7, 3, none⟩ = some (.string ⟨#[117]⟩) ∧ w'.cell? ⟨b7, 4, none⟩ = some (.string ⟨#[97]⟩) ∧ w'.cell? ⟨b7, 5, none⟩ = some (.string ⟨#[]⟩) ∧ w'.cell? ⟨b7, 6, none⟩ = some (.bool true) ∧ w'.cell? ⟨bi, 5, none⟩ = some (.int .i64 1) ∧ w'.cell? ⟨g, 6, none⟩ = some (.string ⟨#[97]⟩) ∧ w'.cell? ⟨g, 7, none⟩ = some (.string ⟨#[120]⟩) ∧ w'.cell? ⟨g, 8, none⟩ = some (.string ⟨#[114]⟩) ∧ w'.cell? ⟨g, 9, none⟩ = some (.string ⟨#[117]⟩) ∧ w'.cell? ⟨g, 10, none⟩ = some (.string ⟨#[98]⟩) ∧ w'.cell? ⟨g, 11, none⟩ = some (.string ⟨#[]⟩) ∧ w'.cell? ⟨g, 12, none⟩ = some (.string ⟨#[97]⟩) ∧ w'.cell? ⟨g, 13, none⟩ = some (.string ⟨#[121]⟩) ∧ w'.cell? ⟨g, 14, none⟩ = some (.string ⟨#[115]⟩) ∧ w'.cell? ⟨g, 15, none⟩ = some (.string ⟨#[117]⟩) ∧ w'.cell? ⟨g, 16, none⟩ = some (.string ⟨#[97]⟩) ∧ w'.cell? ⟨g, 17, none⟩ = some (.string ⟨#[]⟩) ∧ b5 < w'.heap.size ∧ b7 < w'.heap.size ∧ bi < w'.heap.size ∧ g < w'.heap.size) (first | assumption | exact kn_keep (by assumption) (by assumption) | exact kn_keep (g_drew g_refl) (by assumption))
          (first | (go_at_call 23; (with_reducible refine (fprefix_v ⟨#[97]⟩ ⟨#[]⟩ ⟨#[115]⟩ ⟨#[]⟩ ⟨#[]⟩ ⟨#[]⟩ false 1 _ kp5).mono ?_); rintro r x1 ⟨rfl, hc1⟩) | (go_at_call 23; (with_reducible refine (fprefix_v ⟨#[97]⟩ ⟨#[]⟩ ⟨#[115]⟩ ⟨#[117]⟩ ⟨#[97]⟩ ⟨#[]⟩ true 1 _ kq5).mono ?_); rintro r x2 ⟨rfl, hc2⟩) | (go_at_call 25; (with_reducible refine (kt_a5 _).mono ?_); rintro r x3 ⟨rfl, hc3⟩) | (go_at_call 25; (with_reducible refine (kt_b5 _).mono ?_); rintro r x4 ⟨rfl, hc4⟩) | (go_at_call 25; (with_reducible refine (kt_c5 _).mono ?_); rintro r x5 ⟨rfl, hc5⟩))
        all_goals
          go_wp2_with fail
          go_meet
          exact ⟨rfl, HKB3.out.keep (by repeat (first | (with_reducible exact g_refl) | (with_reducible refine g_drew ?_) | (with_reducible refine g_alloc ?_ _) | (with_reducible refine g_trans ?_ hc5) | (with_reducible refine g_trans ?_ hc4) | (with_reducible refine g_trans ?_ hc3) | (with_reducible refine g_trans ?_ hc2) | (with_reducible refine g_trans ?_ hc1))), g_trans hB3 (by repeat (first | (with_reducible exact g_refl) | (with_reducible refine g_drew ?_) | (with_reducible refine g_alloc ?_ _) | (with_reducible refine g_trans ?_ hc5) | (with_reducible refine g_trans ?_ hc4) | (with_reducible refine g_trans ?_ hc3) | (with_reducible refine g_trans ?_ hc2) | (with_reducible refine g_trans ?_ hc1)))⟩
      case rest =>
        obtain ⟨rfl, hkb, hB⟩ := hcut
        have HKB4 := hid hkb; clear hkb
        go_wp2
        go_roundg (8 - (5 + 1))
        case measure => have := HGK.out; omega
        case rel => exact ⟨5 + 1, rfl, by omega, by go_num, HKB4.out, hB⟩
    · as_aux_lemma =>
      obtain ⟨e0, e1, e2, e3, e4, e5, e6, e7, n0, n1, n2, n3, n4, n5, n6, n7, es, er⟩ := HKB.out
      clear e0 e1 e2 e3 e4 e5 e7 n0 n1 n2 n3 n4 n5 n6 n7 er
      go_wp2_with fail
      refine (fparse_v ⟨#[42, 58, 121, 35, 115]⟩ ⟨#[]⟩ ⟨#[121]⟩ ⟨#[115]⟩ ⟨#[]⟩ ⟨#[]⟩ ⟨#[]⟩ false 0 _ (by decide) kf6).mono ?_
      rintro r y1 ⟨rfl, hy1⟩
      have HKB1 := hid (HKB.out.keep hy1)
      have HF1 : Hid (FB (y1.alloc (.cells #[.string ⟨#[]⟩, .string ⟨#[121]⟩, .string ⟨#[115]⟩, .string ⟨#[]⟩, .string ⟨#[]⟩, .string ⟨#[]⟩, .bool false] 47)) y1.heap.size ⟨⟨#[]⟩, ⟨#[121]⟩, ⟨#[115]⟩, ⟨#[]⟩, ⟨#[]⟩, ⟨#[]⟩, false⟩) := hid (by simp only [FB]; exact ⟨by go_simp, by go_simp, by go_simp, by go_simp, by go_simp, by go_simp, by go_simp, by simp⟩)
      clear e6 es
      obtain ⟨e0, e1, e2, e3, e4, e5, e6, e7, n0, n1, n2, n3, n4, n5, n6, n7, es, er⟩ := HKB1.out
      clear e0 e1 e2 e3 e4 e5 e7 n0 n1 n2 n3 n4 n5 n6 n7 er
      have hB1 := g_trans hB hy1
      clear hy1 hB HKB
      have e6a : (y1.alloc (.cells #[.string ⟨#[]⟩, .string ⟨#[121]⟩, .string ⟨#[115]⟩, .string ⟨#[]⟩, .string ⟨#[]⟩, .string ⟨#[]⟩, .bool false] 47)).cell? ⟨t, 6, none⟩ = some (.string ⟨#[42, 58, 121, 35, 115]⟩) := (World.cell?_alloc_lt _ _ _ (World.block_lt_of_cell? _ _ e6)).trans e6
      have lt0 : t < y1.heap.size := World.block_lt_of_cell? _ _ e6
      have ne0 : ¬ t = y1.heap.size := by omega
      go_wp2_with fail
      with_reducible refine (kgv6 _).mono ?_
      rintro r y2 ⟨rfl, hy2⟩
      have HKB2 := hid (((HKB1.out.keep (g_alloc g_refl _)).keep hy2).keep (g_alloc g_refl (.cells #[.string ⟨#[]⟩, .string ⟨#[121]⟩, .string ⟨#[115]⟩, .string ⟨#[117]⟩, .string ⟨#[97]⟩, .string ⟨#[]⟩, .bool true] 47)))
      have HF2 := hid ((HF1.out.keep hy2).keep (g_alloc g_refl (.cells #[.string ⟨#[]⟩, .string ⟨#[121]⟩, .string ⟨#[115]⟩, .string ⟨#[117]⟩, .string ⟨#[97]⟩, .string ⟨#[]⟩, .bool true] 47)))
      have HG2 : Hid (FB (y2.alloc (.cells #[.string ⟨#[]⟩, .string ⟨#[121]⟩, .string ⟨#[115]⟩, .string ⟨#[117]⟩, .string ⟨#[97]⟩, .string ⟨#[]⟩, .bool true] 47)) y2.heap.size ⟨⟨#[]⟩, ⟨#[121]⟩, ⟨#[115]⟩, ⟨#[117]⟩, ⟨#[97]⟩, ⟨#[]⟩, true⟩) := hid (by simp only [FB]; exact ⟨by go_simp, by go_simp, by go_simp, by go_simp, by go_simp, by go_simp, by go_simp, by simp⟩)
      have hB2 := g_alloc (g_trans (g_alloc hB1 _) hy2) (.cells #[.string ⟨#[]⟩, .string ⟨#[121]⟩, .string ⟨#[115]⟩, .string ⟨#[117]⟩, .string ⟨#[97]⟩, .string ⟨#[]⟩, .bool true] 47)
      clear hy2 hB1 HKB1 HF1 e6 es
      generalize y1.heap.size = b5 at *
      go_wp2_with fail
      refine (ks6 g cap _ HKB2.out.2.2.2.2.2.2.2.2.2.2.2.2.2.2.2.2.2 hcap4).mono ?_
      rintro r y3 ⟨⟨A, rfl⟩, hy3⟩
      generalize y2.heap.size = b7 at *
      have HKB3 := hid (HKB2.out.keep hy3)
      have hf3 := HF2.out.keep hy3
      have hg3 := HG2.out.keep hy3
      have hB3 := g_trans hB2 hy3
      clear hy3 hB2 HKB2 HF2 HG2
      simp only [FB] at hf3 hg3
      obtain ⟨f0, f1, f2, f3, f4, f5, f6, f7⟩ := hf3
      obtain ⟨g0, g1, g2, g3, g4, g5, g6, g7⟩ := hg3
      obtain ⟨e0, e1, e2, e3, e4, e5, e6, e7, n0, n1, n2, n3, n4, n5, n6, n7, es, er⟩ := HKB3.out
      obtain ⟨m0, m1, m2, m3, m4, m5, q0, q1, q2, q3, q4, q5, hgs⟩ := sm_mid er
      clear e0 e1 e2 e3 e4 e5 e6 e7 n0 n1 n2 n3 n4 n5 n7 er
      generalize hbi : t + 1 = bi at *
      have hS : y3.cell? ⟨b5, 0, none⟩ = some (.string ⟨#[]⟩) ∧ y3.cell? ⟨b5, 1, none⟩ = some (.string ⟨#[121]⟩) ∧ y3.cell? ⟨b5, 2, none⟩ = some (.string ⟨#[115]⟩) ∧ y3.cell? ⟨b5, 3, none⟩ = some (.string ⟨#[]⟩) ∧ y3.cell? ⟨b5, 4, none⟩ = some (.string ⟨#[]⟩) ∧ y3.cell? ⟨b5, 5, none⟩ = some (.string ⟨#[]⟩) ∧ y3.cell? ⟨b5, 6, none⟩ = some (.bool false) ∧ y3.cell? ⟨b7, 0, none⟩ = some (.string ⟨#[]⟩) ∧ y3.cell? ⟨b7, 1, none⟩ = some (.string ⟨#[121]⟩) ∧ y3.cell? ⟨b7, 2, none⟩ = some (.string ⟨#[115]⟩) ∧ y3.cell? ⟨b7, 3, none⟩ = some (.string ⟨#[117]⟩) ∧ y3.cell? ⟨b7, 4, none⟩ = some (.string ⟨#[97]⟩) ∧ y3.cell? ⟨b7, 5, none⟩ = some (.string ⟨#[]⟩) ∧ y3.cell? ⟨b7, 6, none⟩ = some (.bool true) ∧ y3.cell? ⟨bi, 6, none⟩ = some (.int .i64 0) ∧ y3.cell? ⟨g, 6, none⟩ = some (.string ⟨#[97]⟩) ∧ y3.cell? ⟨g, 7, none⟩ = some (.string ⟨#[120]⟩) ∧ y3.cell? ⟨g, 8, none⟩ = some (.string ⟨#[114]⟩) ∧ y3.cell? ⟨g, 9, none⟩ = some (.string ⟨#[117]⟩) ∧ y3.cell? ⟨g, 10, none⟩ = some (.string ⟨#[98]⟩) ∧ y3.cell? ⟨g, 11, none⟩ = some (.string ⟨#[]⟩) ∧ y3.cell? ⟨g, 12, none⟩ = some (.string ⟨#[97]⟩) ∧ y3.cell? ⟨g, 13, none⟩ = some (.string ⟨#[121]⟩) ∧ y3.cell? ⟨g, 14, none⟩ = some (.string ⟨#[115]⟩) ∧ y3.cell? ⟨g, 15, none⟩ = some (.string ⟨#[117]⟩) ∧ y3.cell? ⟨g, 16, none⟩ = some (.string ⟨#[97]⟩) ∧ y3.cell? ⟨g, 17, none⟩ = some (.string ⟨#[]⟩) ∧ b5 < y3.heap.size ∧ b7 < y3.heap.size ∧ bi < y3.heap.size ∧ g < y3.heap.size := ⟨f0, f1, f2, f3, f4, f5, f6, g0, g1, g2, g3, g4, g5, g6, n6, m0, m1, m2, m3, m4, m5, q0, q1, q2, q3, q4, q5, f7, g7, es, hgs⟩
      clear f0 f1 f2 f3 f4 f5 f6 f7 g0 g1 g2 g3 g4 g5 g6 g7 m0 m1 m2 m3 m4 m5 q0 q1 q2 q3 q4 q5 hgs
      go_upto_region 13 with fail
      go_cut [92] (fun s wx => s = .bool false ∧ KB wx t g ∧ Below w.heap.size w wx)
      case first =>
        go_region_held3 (fun w' => w'.cell? ⟨b5, 0, none⟩ = some (.string ⟨#[]⟩) ∧ w'.cell? ⟨b5, 1, none⟩ = some (.string ⟨#[121]⟩) ∧ w'.cell? ⟨b5, 2, none⟩ = some (.string ⟨#[115]⟩) ∧ w'.cell? ⟨b5, 3, none⟩ = some (.string ⟨#[]⟩) ∧ w'.cell? ⟨b5, 4, none⟩ = some (.string ⟨#[]⟩) ∧ w'.cell? ⟨b5, 5, none⟩ = some (.string ⟨#[]⟩) ∧ w'.cell? ⟨b5, 6, none⟩ = some (.bool false) ∧ w'.cell? ⟨b7, 0, none⟩ = some (.string ⟨#[]⟩) ∧ w'.cell? ⟨b7, 1, none⟩ = some (.string ⟨#[121]⟩) ∧ w'.cell? ⟨b7, 2, none⟩ = some (.string ⟨#[115]⟩) ∧ w'.cell? ⟨b7, 3, none⟩ = some (.string ⟨#[117]⟩) ∧ w'.cell? ⟨b7, 4, none⟩ = some (.string ⟨#[97]⟩) ∧ w'.cell? ⟨b7, 5, none⟩ = some (.string ⟨#[]⟩) ∧ w'.cell? ⟨b7, 6, none⟩ = some (.bool true) ∧ w'.cell? ⟨bi, 6, none⟩ = some (.int .i64 0) ∧ w'.cell? ⟨g, 6, none⟩ = some (.string ⟨#[97]⟩) ∧ w'.cell? ⟨g, 7, none⟩ = some (.string ⟨#[120]⟩) ∧ w'.cell? ⟨g, 8, none⟩ = some (.string ⟨#[114]⟩) ∧ w'.cell? ⟨g, 9, none⟩ = some (.string ⟨#[117]⟩) ∧ w'.cell? ⟨g, 10, none⟩ = some (.string ⟨#[98]⟩) ∧ w'.cell? ⟨g, 11, none⟩ = some (.string ⟨#[]⟩) ∧ w'.cell? ⟨g, 12, none⟩ = some (.string ⟨#[97]⟩) ∧ w'.cell? ⟨g, 13, none⟩ = some (.string ⟨#[121]⟩) ∧ w'.cell? ⟨g, 14, none⟩ = some (.string ⟨#[115]⟩) ∧ w'.cell? ⟨g, 15, none⟩ = some (.string ⟨#[117]⟩) ∧ w'.cell? ⟨g, 16, none⟩ = some (.string ⟨#[97]⟩) ∧ w'.cell? ⟨g, 17, none⟩ = some (.string ⟨#[]⟩) ∧ b5 < w'.heap.size ∧ b7 < w'.heap.size ∧ bi < w'.heap.size ∧ g < w'.heap.size) (first | assumption | exact kn_keep (by assumption) (by assumption) | exact kn_keep (g_drew g_refl) (by assumption))
          (first | (go_at_call 23; (with_reducible refine (fprefix_v ⟨#[]⟩ ⟨#[121]⟩ ⟨#[115]⟩ ⟨#[]⟩ ⟨#[]⟩ ⟨#[]⟩ false 0 _ kp6).mono ?_); rintro r x1 ⟨rfl, hc1⟩) | (go_at_call 23; (with_reducible refine (fprefix_v ⟨#[]⟩ ⟨#[121]⟩ ⟨#[115]⟩ ⟨#[117]⟩ ⟨#[97]⟩ ⟨#[]⟩ true 0 _ kq6).mono ?_); rintro r x2 ⟨rfl, hc2⟩) | (go_at_call 25; (with_reducible refine (kt_a6 _).mono ?_); rintro r x3 ⟨rfl, hc3⟩) | (go_at_call 25; (with_reducible refine (kt_b6 _).mono ?_); rintro r x4 ⟨rfl, hc4⟩) | (go_at_call 25; (with_reducible refine (kt_c6 _).mono ?_); rintro r x5 ⟨rfl, hc5⟩))
        all_goals
          go_wp2_with fail
          go_meet
          exact ⟨rfl, HKB3.out.keep (by repeat (first | (with_reducible exact g_refl) | (with_reducible refine g_drew ?_) | (with_reducible refine g_alloc ?_ _) | (with_reducible refine g_trans ?_ hc5) | (with_reducible refine g_trans ?_ hc4) | (with_reducible refine g_trans ?_ hc3) | (with_reducible refine g_trans ?_ hc2) | (with_reducible refine g_trans ?_ hc1))), g_trans hB3 (by repeat (first | (with_reducible exact g_refl) | (with_reducible refine g_drew ?_) | (with_reducible refine g_alloc ?_ _) | (with_reducible refine g_trans ?_ hc5) | (with_reducible refine g_trans ?_ hc4) | (with_reducible refine g_trans ?_ hc3) | (with_reducible refine g_trans ?_ hc2) | (with_reducible refine g_trans ?_ hc1)))⟩
      case rest =>
        obtain ⟨rfl, hkb, hB⟩ := hcut
        have HKB4 := hid hkb; clear hkb
        go_wp2
        go_roundg (8 - (6 + 1))
        case measure => have := HGK.out; omega
        case rel => exact ⟨6 + 1, rfl, by omega, by go_num, HKB4.out, hB⟩
    · as_aux_lemma =>
      obtain ⟨e0, e1, e2, e3, e4, e5, e6, e7, n0, n1, n2, n3, n4, n5, n6, n7, es, er⟩ := HKB.out
      clear e0 e1 e2 e3 e4 e5 e6 n0 n1 n2 n3 n4 n5 n6 n7 er
      go_wp2_with fail
      refine (fparse_v ⟨#[97, 58, 121, 35, 115]⟩ ⟨#[97]⟩ ⟨#[121]⟩ ⟨#[115]⟩ ⟨#[]⟩ ⟨#[]⟩ ⟨#[]⟩ false 0 _ (by decide) kf7).mono ?_
      rintro r y1 ⟨rfl, hy1⟩
      have HKB1 := hid (HKB.out.keep hy1)
      have HF1 : Hid (FB (y1.alloc (.cells #[.string ⟨#[97]⟩, .string ⟨#[121]⟩, .string ⟨#[115]⟩, .string ⟨#[]⟩, .string ⟨#[]⟩, .string ⟨#[]⟩, .bool false] 47)) y1.heap.size ⟨⟨#[97]⟩, ⟨#[121]⟩, ⟨#[115]⟩, ⟨#[]⟩, ⟨#[]⟩, ⟨#[]⟩, false⟩) := hid (by simp only [FB]; exact ⟨by go_simp, by go_simp, by go_simp, by go_simp, by go_simp, by go_simp, by go_simp, by simp⟩)
      clear e7 es
      obtain ⟨e0, e1, e2, e3, e4, e5, e6, e7, n0, n1, n2, n3, n4, n5, n6, n7, es, er⟩ := HKB1.out
      clear e0 e1 e2 e3 e4 e5 e6 n0 n1 n2 n3 n4 n5 n6 n7 er
      have hB1 := g_trans hB hy1
      clear hy1 hB HKB
      have e7a : (y1.alloc (.cells #[.string ⟨#[97]⟩, .string ⟨#[121]⟩, .string ⟨#[115]⟩, .string ⟨#[]⟩, .string ⟨#[]⟩, .string ⟨#[]⟩, .bool false] 47)).cell? ⟨t, 7, none⟩ = some (.string ⟨#[97, 58, 121, 35, 115]⟩) := (World.cell?_alloc_lt _ _ _ (World.block_lt_of_cell? _ _ e7)).trans e7
      have lt0 : t < y1.heap.size := World.block_lt_of_cell? _ _ e7
      have ne0 : ¬ t = y1.heap.size := by omega
      go_wp2_with fail
      with_reducible refine (kgv7 _).mono ?_
      rintro r y2 ⟨rfl, hy2⟩
      have HKB2 := hid (((HKB1.out.keep (g_alloc g_refl _)).keep hy2).keep (g_alloc g_refl (.cells #[.string ⟨#[97]⟩, .string ⟨#[121]⟩, .string ⟨#[115]⟩, .string ⟨#[117]⟩, .string ⟨#[97]⟩, .string ⟨#[]⟩, .bool true] 47)))
      have HF2 := hid ((HF1.out.keep hy2).keep (g_alloc g_refl (.cells #[.string ⟨#[97]⟩, .string ⟨#[121]⟩, .string ⟨#[115]⟩, .string ⟨#[117]⟩, .string ⟨#[97]⟩, .string ⟨#[]⟩, .bool true] 47)))
      have HG2 : Hid (FB (y2.alloc (.cells #[.string ⟨#[97]⟩, .string ⟨#[121]⟩, .string ⟨#[115]⟩, .string ⟨#[117]⟩, .string ⟨#[97]⟩, .string ⟨#[]⟩, .bool true] 47)) y2.heap.size ⟨⟨#[97]⟩, ⟨#[121]⟩, ⟨#[115]⟩, ⟨#[117]⟩, ⟨#[97]⟩, ⟨#[]⟩, true⟩) := hid (by simp only [FB]; exact ⟨by go_simp, by go_simp, by go_simp, by go_simp, by go_simp, by go_simp, by go_simp, by simp⟩)
      have hB2 := g_alloc (g_trans (g_alloc hB1 _) hy2) (.cells #[.string ⟨#[97]⟩, .string ⟨#[121]⟩, .string ⟨#[115]⟩, .string ⟨#[117]⟩, .string ⟨#[97]⟩, .string ⟨#[]⟩, .bool true] 47)
      clear hy2 hB1 HKB1 HF1 e7 es
      generalize y1.heap.size = b5 at *
      go_wp2_with fail
      refine (ks7 g cap _ HKB2.out.2.2.2.2.2.2.2.2.2.2.2.2.2.2.2.2.2 hcap4).mono ?_
      rintro r y3 ⟨⟨A, rfl⟩, hy3⟩
      generalize y2.heap.size = b7 at *
      have HKB3 := hid (HKB2.out.keep hy3)
      have hf3 := HF2.out.keep hy3
      have hg3 := HG2.out.keep hy3
      have hB3 := g_trans hB2 hy3
      clear hy3 hB2 HKB2 HF2 HG2
      simp only [FB] at hf3 hg3
      obtain ⟨f0, f1, f2, f3, f4, f5, f6, f7⟩ := hf3
      obtain ⟨g0, g1, g2, g3, g4, g5, g6, g7⟩ := hg3
      obtain ⟨e0, e1, e2, e3, e4, e5, e6, e7, n0, n1, n2, n3, n4, n5, n6, n7, es, er⟩ := HKB3.out
      obtain ⟨m0, m1, m2, m3, m4, m5, q0, q1, q2, q3, q4, q5, hgs⟩ := sm_mid er
      clear e0 e1 e2 e3 e4 e5 e6 e7 n0 n1 n2 n3 n4 n5 n6 er
      generalize hbi : t + 1 = bi at *
      have hS : y3.cell? ⟨b5, 0, none⟩ = some (.string ⟨#[97]⟩) ∧ y3.cell? ⟨b5, 1, none⟩ = some (.string ⟨#[121]⟩) ∧ y3.cell? ⟨b5, 2, none⟩ = some (.string ⟨#[115]⟩) ∧ y3.cell? ⟨b5, 3, none⟩ = some (.string ⟨#[]⟩) ∧ y3.cell? ⟨b5, 4, none⟩ = some (.string ⟨#[]⟩) ∧ y3.cell? ⟨b5, 5, none⟩ = some (.string ⟨#[]⟩) ∧ y3.cell? ⟨b5, 6, none⟩ = some (.bool false) ∧ y3.cell? ⟨b7, 0, none⟩ = some (.string ⟨#[97]⟩) ∧ y3.cell? ⟨b7, 1, none⟩ = some (.string ⟨#[121]⟩) ∧ y3.cell? ⟨b7, 2, none⟩ = some (.string ⟨#[115]⟩) ∧ y3.cell? ⟨b7, 3, none⟩ = some (.string ⟨#[117]⟩) ∧ y3.cell? ⟨b7, 4, none⟩ = some (.string ⟨#[97]⟩) ∧ y3.cell? ⟨b7, 5, none⟩ = some (.string ⟨#[]⟩) ∧ y3.cell? ⟨b7, 6, none⟩ = some (.bool true) ∧ y3.cell? ⟨bi, 7, none⟩ = some (.int .i64 3) ∧ y3.cell? ⟨g, 6, none⟩ = some (.string ⟨#[97]⟩) ∧ y3.cell? ⟨g, 7, none⟩ = some (.string ⟨#[120]⟩) ∧ y3.cell? ⟨g, 8, none⟩ = some (.string ⟨#[114]⟩) ∧ y3.cell? ⟨g, 9, none⟩ = some (.string ⟨#[117]⟩) ∧ y3.cell? ⟨g, 10, none⟩ = some (.string ⟨#[98]⟩) ∧ y3.cell? ⟨g, 11, none⟩ = some (.string ⟨#[]⟩) ∧ y3.cell? ⟨g, 12, none⟩ = some (.string ⟨#[97]⟩) ∧ y3.cell? ⟨g, 13, none⟩ = some (.string ⟨#[121]⟩) ∧ y3.cell? ⟨g, 14, none⟩ = some (.string ⟨#[115]⟩) ∧ y3.cell? ⟨g, 15, none⟩ = some (.string ⟨#[117]⟩) ∧ y3.cell? ⟨g, 16, none⟩ = some (.string ⟨#[97]⟩) ∧ y3.cell? ⟨g, 17, none⟩ = some (.string ⟨#[]⟩) ∧ b5 < y3.heap.size ∧ b7 < y3.heap.size ∧ bi < y3.heap.size ∧ g < y3.heap.size := ⟨f0, f1, f2, f3, f4, f5, f6, g0, g1, g2, g3, g4, g5, g6, n7, m0, m1, m2, m3, m4, m5, q0, q1, q2, q3, q4, q5, f7, g7, es, hgs⟩
      clear f0 f1 f2 f3 f4 f5 f6 f7 g0 g1 g2 g3 g4 g5 g6 g7 m0 m1 m2 m3 m4 m5 q0 q1 q2 q3 q4 q5 hgs
      go_upto_region 13 with fail
      go_cut [92] (fun s wx => s = .bool false ∧ KB wx t g ∧ Below w.heap.size w wx)
      case first =>
        go_region_held3 (fun w' => w'.cell? ⟨b5, 0, none⟩ = some (.string ⟨#[97]⟩) ∧ w'.cell? ⟨b5, 1, none⟩ = some (.string ⟨#[121]⟩) ∧ w'.cell? ⟨b5, 2, none⟩ = some (.string ⟨#[115]⟩) ∧ w'.cell? ⟨b5, 3, none⟩ = some (.string ⟨#[]⟩) ∧ w'.cell? ⟨b5, 4, none⟩ = some (.string ⟨#[]⟩) ∧ w'.cell? ⟨b5, 5, none⟩ = some (.string ⟨#[]⟩) ∧ w'.cell? ⟨b5, 6, none⟩ = some (.bool false) ∧ w'.cell? ⟨b7, 0, none⟩ = some (.string ⟨#[97]⟩) ∧ w'.cell? ⟨b7, 1, none⟩ = some (.string ⟨#[121]⟩) ∧ w'.cell? ⟨b7, 2, none⟩ = some (.string ⟨#[115]⟩) ∧ w'.cell? ⟨b7, 3, none⟩ = some (.string ⟨#[117]⟩) ∧ w'.cell? ⟨b7, 4, none⟩ = some (.string ⟨#[97]⟩) ∧ w'.cell? ⟨b7, 5, none⟩ = some (.string ⟨#[]⟩) ∧ w'.cell? ⟨b7, 6, none⟩ = some (.bool true) ∧ w'.cell? ⟨bi, 7, none⟩ = some (.int .i64 3) ∧ w'.cell? ⟨g, 6, none⟩ = some (.string ⟨#[97]⟩) ∧ w'.cell? ⟨g, 7, none⟩ = some (.string ⟨#[120]⟩) ∧ w'.cell? ⟨g, 8, none⟩ = some (.string ⟨#[114]⟩) ∧ w'.cell? ⟨g, 9, none⟩ = some (.string ⟨#[117]⟩) ∧ w'.cell? ⟨g, 10, none⟩ = some (.string ⟨#[98]⟩) ∧ w'.cell? ⟨g, 11, none⟩ = some (.string ⟨#[]⟩) ∧ w'.cell? ⟨g, 12, none⟩ = some (.string ⟨#[97]⟩) ∧ w'.cell? ⟨g, 13, none⟩ = some (.string ⟨#[121]⟩) ∧ w'.cell? ⟨g, 14, none⟩ = some (.string ⟨#[115]⟩) ∧ w'.cell? ⟨g, 15, none⟩ = some (.string ⟨#[117]⟩) ∧ w'.cell? ⟨g, 16, none⟩ = some (.string ⟨#[97]⟩) ∧ w'.cell? ⟨g, 17, none⟩ = some (.string ⟨#[]⟩) ∧ b5 < w'.heap.size ∧ b7 < w'.heap.size ∧ bi < w'.heap.size ∧ g < w'.heap.size) (first | assumption | exact kn_keep (by assumption) (by assumption) | exact kn_keep (g_drew g_refl) (by assumption))
          (first | (go_at_call 23; (with_reducible refine (fprefix_v ⟨#[97]⟩ ⟨#[121]⟩ ⟨#[115]⟩ ⟨#[]⟩ ⟨#[]⟩ ⟨#[]⟩ false 3 _ kp7).mono ?_); rintro r x1 ⟨rfl, hc1⟩) | (go_at_call 23; (with_reducible refine (fprefix_v ⟨#[97]⟩ ⟨#[121]⟩ ⟨#[115]⟩ ⟨#[117]⟩ ⟨#[97]⟩ ⟨#[]⟩ true 4 _ kq7).mono ?_); rintro r x2 ⟨rfl, hc2⟩) | (go_at_call 25; (with_reducible refine (kt_a7 _).mono ?_); rintro r x3 ⟨rfl, hc3⟩) | (go_at_call 25; (with_reducible refine (kt_b7 _).mono ?_); rintro r x4 ⟨rfl, hc4⟩) | (go_at_call 25; (with_reducible refine (kt_c7 _).mono ?_); rintro r x5 ⟨rfl, hc5⟩))
        all_goals
          go_wp2_with fail
          go_meet
          exact ⟨rfl, HKB3.out.keep (by repeat (first | (with_reducible exact g_refl) | (with_reducible refine g_drew ?_) | (with_reducible refine g_alloc ?_ _) | (with_reducible refine g_trans ?_ hc5) | (with_reducible refine g_trans ?_ hc4) | (with_reducible refine g_trans ?_ hc3) | (with_reducible refine g_trans ?_ hc2) | (with_reducible refine g_trans ?_ hc1))), g_trans hB3 (by repeat (first | (with_reducible exact g_refl) | (with_reducible refine g_drew ?_) | (with_reducible refine g_alloc ?_ _) | (with_reducible refine g_trans ?_ hc5) | (with_reducible refine g_trans ?_ hc4) | (with_reducible refine g_trans ?_ hc3) | (with_reducible refine g_trans ?_ hc2) | (with_reducible refine g_trans ?_ hc1)))⟩
      case rest =>
        obtain ⟨rfl, hkb, hB⟩ := hcut
        have HKB4 := hid hkb; clear hkb
        go_wp2
        go_roundg (8 - (7 + 1))
        case measure => have := HGK.out; omega
        case rel => exact ⟨7 + 1, rfl, by omega, by go_num, HKB4.out, hB⟩
    · as_aux_lemma =>
      clear HKB
      go_wp2_with fail
      refine (fcheck_v ⟨#[65]⟩ ⟨#[]⟩ ⟨#[]⟩ ⟨#[]⟩ ⟨#[]⟩ ⟨#[97]⟩ false 5 _ ⟨by decide, by decide, by decide, by decide, by decide, by decide⟩ (by decide +kernel)).mono ?_
      rintro r z0 ⟨rfl, hz0⟩
      go_wp2_with fail
      refine (fcheck_v ⟨#[]⟩ ⟨#[]⟩ ⟨#[]⟩ ⟨#[]⟩ ⟨#[]⟩ ⟨#[]⟩ true 6 _ ⟨by decide, by decide, by decide, by decide, by decide, by decide⟩ (by decide +kernel)).mono ?_
      rintro r z1 ⟨rfl, hz1⟩
      go_wp2_with fail
      refine (fcheck_v ⟨#[]⟩ ⟨#[]⟩ ⟨#[]⟩ ⟨#[]⟩ ⟨#[]⟩ ⟨#[]⟩ false 0 _ ⟨by decide, by decide, by decide, by decide, by decide, by decide⟩ (by decide +kernel)).mono ?_
      rintro r z2 ⟨rfl, hz2⟩
      go_wp2_with fail
      refine (flives _).mono ?_
      rintro r z3 ⟨rfl, hz3⟩
      go_wp2
      go_ret
      exact ⟨rfl, g_trans (g_trans (g_trans (g_trans hB hz0) hz1) hz2) hz3⟩
end Go.Proofs.Ythgdmhonemommaa
