/-
  THE CONTRACT of T.Of.
-/
import Derived.Test.YtgfgfggoofjeeaaTGen
namespace Go.Proofs.Ytgfgfggoofjeeaa
open Go.RowKit Go.Sort

/-- a slice of pairs of bytes reads as x -/
def RowN (w : World) (A : Option Addr) (x : List (Nat × Nat)) : Prop :=
  x ≠ [] → ∃ b o, A = some ⟨b, o, none⟩ ∧ b < w.heap.size ∧ ∀ i, (h : i < x.length) → x[i].1 < 256 ∧ x[i].2 < 256 ∧ w.cell? ⟨b, o + i * 2, none⟩ = some (.int .u8 (x[i].1 : Nat)) ∧ w.cell? ⟨b, o + i * 2 + 1, none⟩ = some (.int .u8 (x[i].2 : Nat))
theorem RowN.gw {w w' : World} {A : Option Addr} {x : List (Nat × Nat)} (h : RowN w A x) (hb : Grew w w') : RowN w' A x := fun hl => by
  obtain ⟨b, o, e, h1, h2⟩ := h hl
  refine ⟨b, o, e, Nat.lt_of_lt_of_le h1 hb.size, fun i hi => ?_⟩
  obtain ⟨p, q, h3, h4⟩ := h2 i hi
  exact ⟨p, q, (hb.toBelow.cell (p := ⟨b, _, none⟩) h1).trans h3, (hb.toBelow.cell (p := ⟨b, _, none⟩) h1).trans h4⟩
def ofK (x : List (Nat × Nat)) (k : Nat) : List Tup := (x.take k).map fun p => one p.1 p.2
theorem ofK_step {x : List (Nat × Nat)} {k : Nat} (h : k < x.length) : ofK x k ++ [one x[k].1 x[k].2] = ofK x (k + 1) := by
  unfold ofK; rw [List.take_succ_eq_append_getElem h, List.map_append]; rfl
theorem ofK_len {x : List (Nat × Nat)} {k : Nat} (h : k ≤ x.length) : (ofK x k).length = k := by unfold ofK; simp; omega
theorem ofK_end {x : List (Nat × Nat)} {k : Nat} (hk : k ≤ 20) (h : ¬ k < x.length ∨ ¬ k < 20) : ofK x k = ofT x := by
  unfold ofK ofT
  by_cases h2 : k < 20
  · rw [List.take_of_length_le (by omega), List.take_of_length_le (by omega)]
  · rw [show k = 20 by omega]
theorem ofT_len (x : List (Nat × Nat)) : (ofT x).length ≤ 20 := by unfold ofT; simp; omega

attribute [local go_sem] val
set_option maxHeartbeats 1600000 in
theorem of_any (A : Option Addr) (x : List (Nat × Nat)) (c : Nat) (w : World) (hR : RowN w A x) (hn : x.length ≤ maxLen) :
    Calls Try.prog 6 #[.agg #[.slice A x.length c]] w (Gives w (ofT x)) := by
  unfold maxLen at hn
  go_enter Try.func6, Try.ntmps6
  go_wp2
  go_loopw [3, 4] (fun v i wr => ∃ k : Nat, k ≤ x.length ∧ k ≤ 20 ∧ i = .int .i64 k ∧ Own wr (w.heap.size + 1) v (ofK x k) ∧ Grew (w.alloc (.cells #[.slice A x.length c] 24)) wr) (fun _ i _ => 20 - (intOf i).toNat)
  case atStart => exact ⟨0, Nat.zero_le _, Nat.zero_le _, rfl, Own.nil _ _, gw_refl⟩
  case round =>
    obtain ⟨k, hk, hk2, rfl, hown, hw⟩ := hrel
    have hcell : wr.cell? ⟨w.heap.size, 0, none⟩ = some (.slice A x.length c) := (hw.toBelow.cell (p := ⟨w.heap.size, 0, none⟩) (by simp)).trans (by go_simp)
    have hW : Grew w wr := gw_trans (gw_alloc gw_refl _) hw
    have hz0 : w.heap.size + 1 ≤ wr.heap.size := by have := hw.size; simpa using this
    by_cases hlt : k < x.length
    · by_cases h20 : k < 20
      · obtain ⟨b, o, rfl, hb, hc⟩ := hR.gw hW (fun e => by subst e; simp at hlt)
        obtain ⟨p1, p2, c1, c2⟩ := hc k hlt
        have hlen := ofK_len hk
        clear hR hc
        go_wp2_with fail
        refine (one_any x[k].1 x[k].2 _ p1 p2).mono ?_
        rintro e w1 ⟨rfl, hw1⟩
        have hown1 := hown.gw hw1
        have hz := hW.size
        have hz1 := hw1.size
        clear hown
        go_wp2_with (at_builtin; refine wp_app _ _ rfl rfl (w.heap.size + 1) _ (ofK x k) w1.heap.size 1 (one x[k].1 x[k].2) rfl rfl (hown1.gw (gw_alloc gw_refl _)) (new_cells w1 (one x[k].1 x[k].2) _) (by omega) (by simp; omega) ?_)
        intro v5 w5 hown5 hg5 hd5
        have hw5 : Grew (w.alloc (.cells #[.slice (some ⟨b, o, none⟩) x.length c] 24)) w5 := by
          have := gw_trans hw hw1
          exact gw_grown (gw_alloc this _) hg5 hd5 fun g hg => by have := (hown1.lt g hg).1; simpa using this
        go_wp2
        go_roundw
        case rel => exact ⟨k + 1, by omega, by omega, by go_num, by rw [← ofK_step hlt]; exact hown5, hw5⟩
        case measure => simp [intOf]; omega
      · go_wp2
        go_ret
        exact ⟨_, rfl, by rw [← ofK_end hk2 (.inr h20)]; exact hown.mono (Nat.le_succ _), hW⟩
    · go_wp2
      go_ret
      exact ⟨_, rfl, by rw [← ofK_end hk2 (.inl hlt)]; exact hown.mono (Nat.le_succ _), hW⟩

end Go.Proofs.Ytgfgfggoofjeeaa
