/-
  THE CONTRACTS of the reference's First, Span and Select.
-/
import Derived.Test.YtgfgfggoofjeeaaFSel
namespace Go.Proofs.Ytgfgfggoofjeeaa
open Go.RowKit Go.Sort

theorem rprefix_gw (a b c d e f : ByteArray) (x : Bool) (n : Int) (w : World) (h : fpre ⟨a, b, c, d, e, f, x⟩ = n) :
    Calls Try.prog 16 #[.agg #[.string a, .string b, .string c, .string d, .string e, .string f, .bool x]] w fun r w' => r = .returned (.int .i64 n) ∧ Grew w w' := by
  have q := rprefix ⟨a, b, c, d, e, f, x⟩ w; rw [h] at q; exact q
theorem fst0 {f : Fil} (h : f.a.toList.isEmpty = true) : fst1 f = ⟨⟨#[]⟩, ⟨#[]⟩, ⟨#[]⟩, ⟨#[]⟩, ⟨#[]⟩, ⟨#[]⟩, false⟩ := by unfold fst1; rw [if_pos h]
theorem fst11 {f : Fil} (h : f.a.toList.isEmpty = false) (k : f.b.toList.isEmpty = true) : fst1 f = ⟨f.a, ⟨#[]⟩, ⟨#[]⟩, ⟨#[]⟩, ⟨#[]⟩, ⟨#[]⟩, false⟩ := by unfold fst1; rw [if_neg (by rw [h]; decide), if_pos k]
theorem fst2 {f : Fil} (h : f.a.toList.isEmpty = false) (k : f.b.toList.isEmpty = false) (l : f.c.toList.isEmpty = true) : fst1 f = ⟨f.a, f.b, ⟨#[]⟩, ⟨#[]⟩, ⟨#[]⟩, ⟨#[]⟩, false⟩ := by unfold fst1; rw [if_neg (by rw [h]; decide), if_neg (by rw [k]; decide), if_pos l]
theorem fst3 {f : Fil} (h : f.a.toList.isEmpty = false) (k : f.b.toList.isEmpty = false) (l : f.c.toList.isEmpty = false) (x : f.x = false) : fst1 f = ⟨f.a, f.b, f.c, ⟨#[]⟩, ⟨#[]⟩, ⟨#[]⟩, false⟩ := by unfold fst1; rw [if_neg (by rw [h]; decide), if_neg (by rw [k]; decide), if_neg (by rw [l]; decide), if_neg (by rw [x]; decide)]
theorem fst4 {f : Fil} (h : f.a.toList.isEmpty = false) (k : f.b.toList.isEmpty = false) (l : f.c.toList.isEmpty = false) (x : f.x = true) : fst1 f = f := by unfold fst1; rw [if_neg (by rw [h]; decide), if_neg (by rw [k]; decide), if_neg (by rw [l]; decide), if_pos x]






theorem rtakes_q (f : Fil) (t : Tup) (v : Int) (hv : takesI f t = v) (w : World) (n : Nat) (os : Array Obj) :
    Calls Try.prog 10 #[valF f, val t] (grow (w.drewN n) os) fun e w'' => e = .returned (.int .i64 v) ∧ ∃ p : GrownBy, w'' = grow (w.drewN p.n) p.os :=
  Calls.grown_of ((rtakes f t _).mono fun _ _ h => ⟨by rw [h.1, hv], h.2.out⟩)
/-- a filter in a block, in every world that grew -/
def FG (w : World) (b : Nat) (f : Fil) : Prop :=
  (∀ n os, (grow (w.drewN n) os).cell? ⟨b, 0, none⟩ = some (.string f.a)) ∧ (∀ n os, (grow (w.drewN n) os).cell? ⟨b, 1, none⟩ = some (.string f.b)) ∧ (∀ n os, (grow (w.drewN n) os).cell? ⟨b, 2, none⟩ = some (.string f.c)) ∧
  (∀ n os, (grow (w.drewN n) os).cell? ⟨b, 3, none⟩ = some (.string f.d)) ∧ (∀ n os, (grow (w.drewN n) os).cell? ⟨b, 4, none⟩ = some (.string f.e)) ∧ (∀ n os, (grow (w.drewN n) os).cell? ⟨b, 5, none⟩ = some (.string f.f)) ∧ (∀ n os, (grow (w.drewN n) os).cell? ⟨b, 6, none⟩ = some (.bool f.x))
theorem FB.grown {w : World} {b : Nat} {f : Fil} (h : FB w b f) : FG w b f := by
  obtain ⟨h0, h1, h2, h3, h4, h5, h6, h7⟩ := h
  have k : ∀ (n : Nat) (os : Array Obj) (o : Nat), (grow (w.drewN n) os).cell? ⟨b, o, none⟩ = w.cell? ⟨b, o, none⟩ := fun n os o => (Grew.of_grow w n os).toBelow.cell (p := ⟨b, o, none⟩) h7
  exact ⟨fun n os => (k n os _).trans h0, fun n os => (k n os _).trans h1, fun n os => (k n os _).trans h2, fun n os => (k n os _).trans h3, fun n os => (k n os _).trans h4, fun n os => (k n os _).trans h5, fun n os => (k n os _).trans h6⟩
theorem tkI_yes {f : Fil} {t : Tup} (h : takes f t = true) : takesI f t = 1 := by unfold takesI; rw [if_pos h]
theorem tkI_no {f : Fil} {t : Tup} (h : takes f t = false) : takesI f t = 0 := by unfold takesI; rw [if_neg (by rw [h]; decide)]


/-- what the first loop of Span holds -/
def sA (n0 n1 k : Nat) : Int := if n0 < min k n1 then n0 else -1
def sB (n0 n1 k : Nat) : Int := if n0 < min k n1 then (min k n1 : Nat) else -1
theorem sA_neg {n0 n1 k : Nat} (h : ¬ n0 < min k n1) : sA n0 n1 k = -1 ∧ sB n0 n1 k = -1 := by unfold sA sB; rw [if_neg h, if_neg h]; exact ⟨rfl, rfl⟩
theorem sA_pos {n0 n1 k : Nat} (h : n0 < min k n1) : sA n0 n1 k = n0 ∧ sB n0 n1 k = (min k n1 : Nat) := by unfold sA sB; rw [if_pos h, if_pos h]; exact ⟨rfl, rfl⟩
theorem sA_keep {n0 n1 k : Nat} (h : ¬ (n0 ≤ k ∧ k < n1)) (hn : n0 ≤ n1) : sA n0 n1 (k + 1) = sA n0 n1 k ∧ sB n0 n1 (k + 1) = sB n0 n1 k := by
  by_cases h1 : n0 < min k n1
  · have h2 : n0 < min (k + 1) n1 := by omega
    rw [(sA_pos h1).1, (sA_pos h1).2, (sA_pos h2).1, (sA_pos h2).2]
    exact ⟨rfl, by omega⟩
  · have h2 : ¬ n0 < min (k + 1) n1 := by omega
    rw [(sA_neg h1).1, (sA_neg h1).2, (sA_neg h2).1, (sA_neg h2).2]
    exact ⟨rfl, rfl⟩
end Go.Proofs.Ytgfgfggoofjeeaa
