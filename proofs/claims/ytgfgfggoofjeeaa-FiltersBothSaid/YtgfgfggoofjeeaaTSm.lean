/-
  PLAIN FACTS about the tuples that the laws draw: they are small; sorted lists of them; a pair of bytes in a block.
-/
import Derived.Test.YtgfgfggoofjeeaaTFact
import Derived.Test.YtgfgfggoofjeeaaTSome
import Derived.Test.YtgfgfggoofjeeaaTOf
namespace Go.Proofs.Ytgfgfggoofjeeaa
open Go.RowKit Go.Sort

theorem spc_len (n : Nat) : (spc n).size ≤ 10 := by
  by_cases h : n % 3 = 0
  · unfold spc; rw [if_pos h]; decide
  · by_cases h2 : n % 3 = 1
    · unfold spc; rw [if_neg h, if_pos h2]; decide
    · unfold spc; rw [if_neg h, if_neg h2]; decide
theorem idS_len (n : Nat) : (idS n).size ≤ 10 := by 
  unfold idS
  repeat' split
  all_goals decide
theorem relS_len (n : Nat) : (relS n).size ≤ 10 := by 
  unfold relS
  repeat' split
  all_goals decide
theorem one_sm (p q : Nat) : Small (one p q) := by
  have h1 := spc_len (p % 60); have h2 := idS_len (p % 60 / 3); have h3 := relS_len (p % 60 / 15)
  have h4 := spc_len (q % 75); have h5 := idS_len (q % 75 / 3); have h6 := relS_len (q % 75 / 15 - 1)
  by_cases h : 15 ≤ q % 75
  · rw [one_big h]; exact ⟨Nat.le_trans h1 (by decide), Nat.le_trans h2 (by decide), Nat.le_trans h3 (by decide), Nat.le_trans h4 (by decide), Nat.le_trans h5 (by decide), Nat.le_trans h6 (by decide)⟩
  · rw [one_small h]; exact ⟨Nat.le_trans h1 (by decide), Nat.le_trans h2 (by decide), Nat.le_trans h3 (by decide), Nat.le_trans h4 (by decide), Nat.le_trans h5 (by decide), Nat.zero_le _⟩
theorem ofT_fits (x : List (Nat × Nat)) : ∀ t ∈ ofT x, Fits t := fun t ht => by
  unfold ofT at ht
  obtain ⟨p, -, rfl⟩ := List.mem_map.1 ht
  exact (one_sm _ _).fits
theorem srt_fits {l : List Tup} (h : ∀ t ∈ l, Fits t) : ∀ t ∈ srt cmpT l, Fits t := fun t ht => h t ((mem_srt tot l t).1 ht)
theorem srt_len20 (x : List (Nat × Nat)) : (srt cmpT (ofT x)).length ≤ 20 := Nat.le_trans (length_srt _) (ofT_len x)
theorem srt_isB (l : List Tup) : isB cmpT (srt cmpT l) = true := (isB_asc tot _).2 (asc_srt tot l)

/-- a pair of bytes lies in a block -/
def NN (w : World) (b p q : Nat) : Prop := w.cell? ⟨b, 0, none⟩ = some (.int .u8 p) ∧ w.cell? ⟨b, 1, none⟩ = some (.int .u8 q) ∧ b < w.heap.size
theorem NN.keep {w w' : World} {b p q : Nat} (h : NN w b p q) (hb : Below w.heap.size w w') : NN w' b p q := by
  obtain ⟨h0, h1, h2⟩ := h
  exact ⟨(own_cells hb _ h2 _).1.trans h0, (own_cells hb _ h2 _).1.trans h1, Nat.lt_of_lt_of_le h2 hb.size⟩

end Go.Proofs.Ytgfgfggoofjeeaa
