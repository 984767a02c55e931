/-
  THE CONTRACT of slices.Clip at tuples.
-/
import Derived.Test.YtgfgfggoofjeeaaFTak
namespace Go.Proofs.Ytgfgfggoofjeeaa
open Go.RowKit Go.Sort

set_option maxHeartbeats 400000 in
theorem clip_nil (c : Nat) (w : World) :
    Calls Try.prog 47 #[.slice none 0 c] w fun r w' => r = .returned (.slice none 0 0) ∧ w = w' := by
  go_enter Try.func47, Try.ntmps47
  go_wp2
  go_ret
  exact ⟨rfl, rfl⟩
set_option maxHeartbeats 400000 in
theorem clip_some (b o n c : Nat) (w : World) (h : n ≤ c) :
    Calls Try.prog 47 #[.slice (some ⟨b, o, none⟩) n c] w fun r w' => r = .returned (.slice (some ⟨b, o, none⟩) n n) ∧ w = w' := by
  go_enter Try.func47, Try.ntmps47
  go_wp2
  go_ret
  exact ⟨rfl, rfl⟩

theorem Own.form {w : World} {base : Nat} {v : Value} {l : List Tup} (h : Own w base v l) :
    (v = .slice none 0 0 ∧ l = []) ∨ ∃ g cap, v = .slice (some ⟨g, 0, none⟩) l.length cap ∧ l.length ≤ cap ∧ Row w (some ⟨g, 0, none⟩) l := by
  obtain ⟨A, c, hv, hR, hc, -⟩ := h.row
  rcases h.2 with ⟨rfl, hn⟩ | ⟨g, cap, cur, rfl, hb, hg, hc', hm, hsz, ht⟩
  · exact .inl ⟨rfl, List.eq_nil_of_length_eq_zero hn⟩
  · injection hv with h1 h2 h3
    subst h1
    exact .inr ⟨g, cap, rfl, hc', hR⟩
theorem ftakes_v (a b c d e f : ByteArray) (x : Bool) (t : Tup) (u : Bool) (w : World) (h : takes ⟨a, b, c, d, e, f, x⟩ t = u) :
    Calls Try.prog 17 #[.agg #[.string a, .string b, .string c, .string d, .string e, .string f, .bool x], .agg #[.string t.a, .string t.b, .string t.c, .string t.d, .string t.e, .string t.f]] w fun r w' => r = .returned (.bool u) ∧ Grew w w' := by
  have q := ftakes ⟨a, b, c, d, e, f, x⟩ t w; rw [h] at q; exact q
/-- what was taken of the first ones -/
def selK (f : Fil) (m : List Tup) (j : Nat) : List Tup := (m.take j).filter (takes f)
theorem selK_no {f : Fil} {m : List Tup} {j : Nat} (hj : j < m.length) (h : takes f m[j] = false) : selK f m (j + 1) = selK f m j := by
  unfold selK; rw [List.take_succ_eq_append_getElem hj, List.filter_append]; simp [h]
theorem selK_yes {f : Fil} {m : List Tup} {j : Nat} (hj : j < m.length) (h : takes f m[j] = true) : selK f m j ++ [m[j]] = selK f m (j + 1) := by
  unfold selK; rw [List.take_succ_eq_append_getElem hj, List.filter_append]; simp [h]
theorem selK_end {f : Fil} {m : List Tup} {j : Nat} (hj : ¬ j < m.length) : selK f m j = m.filter (takes f) := by unfold selK; rw [List.take_of_length_le (by omega)]
theorem selK_len (f : Fil) (m : List Tup) (j : Nat) : (selK f m j).length ≤ m.length := Nat.le_trans (List.length_filter_le _ _) (by simp; omega)
end Go.Proofs.Ytgfgfggoofjeeaa
