/-
  THE CONTRACTS of the law's Space, ID, Rel, One and Of: the tuples that plain numbers stand for.
-/
import Derived.Test.YtgfgfggoofjeeaaTRef
namespace Go.Proofs.Ytgfgfggoofjeeaa
open Go.RowKit Go.Sort

def spc (n : Nat) : ByteArray := if n % 3 = 0 then ⟨#[100, 111, 99]⟩ else if n % 3 = 1 then ⟨#[102, 111, 108, 100, 101, 114]⟩ else ⟨#[103, 114, 111, 117, 112]⟩
def idS (n : Nat) : ByteArray := if n % 5 = 0 then ⟨#[97]⟩ else if n % 5 = 1 then ⟨#[98]⟩ else if n % 5 = 2 then ⟨#[99, 49]⟩ else if n % 5 = 3 then ⟨#[100]⟩ else ⟨#[114, 111, 111, 116]⟩
def relS (n : Nat) : ByteArray := if n % 4 = 0 then ⟨#[118, 105, 101, 119, 101, 114]⟩ else if n % 4 = 1 then ⟨#[101, 100, 105, 116, 111, 114]⟩ else if n % 4 = 2 then ⟨#[109, 101, 109, 98, 101, 114]⟩ else ⟨#[112, 97, 114, 101, 110, 116]⟩
theorem ret_str {a b : ByteArray} (h : a = b) : Ending.returned (.string a) = .returned (.string b) := by rw [h]

set_option maxHeartbeats 400000 in
theorem space_any (n : Nat) (w : World) (hn : n < 1000) :
    Calls Try.prog 62 #[.int .i64 n] w fun e w' => e = .returned (.string (spc n)) ∧ Grew w w' := by
  rcases (show n % 3 = 0 ∨ n % 3 = 1 ∨ n % 3 = 2 by omega) with h | h | h
  all_goals
    have E := hid (show spc n = spc (n % 3) by unfold spc; simp only [Nat.mod_mod])
    rw [h] at E
    have h2 : (n : Int) % 3 = ((n % 3 : Nat) : Int) := by omega
    rw [h] at h2
    clear h
    have b0 : (0 : Int) ≤ (n : Int) := by omega
    have b1 : (n : Int) < 1000 := by omega
    go_enter Try.func62, Try.ntmps62
    go_wp2
    go_ret
    exact ⟨ret_str E.out.symm, gw_alloc gw_refl _⟩
set_option maxHeartbeats 400000 in
theorem id_any (n : Nat) (w : World) (hn : n < 1000) :
    Calls Try.prog 63 #[.int .i64 n] w fun e w' => e = .returned (.string (idS n)) ∧ Grew w w' := by
  rcases (show n % 5 = 0 ∨ n % 5 = 1 ∨ n % 5 = 2 ∨ n % 5 = 3 ∨ n % 5 = 4 by omega) with h | h | h | h | h
  all_goals
    have E := hid (show idS n = idS (n % 5) by unfold idS; simp only [Nat.mod_mod])
    rw [h] at E
    have h2 : (n : Int) % 5 = ((n % 5 : Nat) : Int) := by omega
    rw [h] at h2
    clear h
    have b0 : (0 : Int) ≤ (n : Int) := by omega
    have b1 : (n : Int) < 1000 := by omega
    go_enter Try.func63, Try.ntmps63
    go_wp2
    go_ret
    exact ⟨ret_str E.out.symm, gw_alloc gw_refl _⟩
set_option maxHeartbeats 400000 in
theorem rel_any (n : Nat) (w : World) (hn : n < 1000) :
    Calls Try.prog 64 #[.int .i64 n] w fun e w' => e = .returned (.string (relS n)) ∧ Grew w w' := by
  rcases (show n % 4 = 0 ∨ n % 4 = 1 ∨ n % 4 = 2 ∨ n % 4 = 3 by omega) with h | h | h | h
  all_goals
    have E := hid (show relS n = relS (n % 4) by unfold relS; simp only [Nat.mod_mod])
    rw [h] at E
    have h2 : (n : Int) % 4 = ((n % 4 : Nat) : Int) := by omega
    rw [h] at h2
    clear h
    have b0 : (0 : Int) ≤ (n : Int) := by omega
    have b1 : (n : Int) < 1000 := by omega
    go_enter Try.func64, Try.ntmps64
    go_wp2
    go_ret
    exact ⟨ret_str E.out.symm, gw_alloc gw_refl _⟩

/-- the tuple of two numbers -/
def one (p q : Nat) : Tup :=
  ⟨spc (p % 60), idS (p % 60 / 3), relS (p % 60 / 15), spc (q % 75), idS (q % 75 / 3), if 15 ≤ q % 75 then relS (q % 75 / 15 - 1) else ⟨#[]⟩⟩
theorem one_small {p q : Nat} (h : ¬ 15 ≤ q % 75) : one p q = ⟨spc (p % 60), idS (p % 60 / 3), relS (p % 60 / 15), spc (q % 75), idS (q % 75 / 3), ⟨#[]⟩⟩ := by unfold one; rw [if_neg h]
theorem one_big {p q : Nat} (h : 15 ≤ q % 75) : one p q = ⟨spc (p % 60), idS (p % 60 / 3), relS (p % 60 / 15), spc (q % 75), idS (q % 75 / 3), relS (q % 75 / 15 - 1)⟩ := by unfold one; rw [if_pos h]

set_option maxRecDepth 100000 in
set_option maxHeartbeats 2000000 in
theorem one_lo (p q : Nat) (w : World) (hp : p < 256) (hq : q < 256) (h : ¬ 15 ≤ q % 75) :
    Calls Try.prog 30 #[.agg #[.int .u8 p, .int .u8 q]] w fun e w' => e = .returned (val (one p q)) ∧ Grew w w' := by
  have E := hid (one_small (p := p) h)
  obtain ⟨g, hg⟩ : ∃ g, p % 60 = g := ⟨_, rfl⟩
  obtain ⟨s, hs⟩ : ∃ s, q % 75 = s := ⟨_, rfl⟩
  obtain ⟨g3, hg3⟩ : ∃ x, g / 3 = x := ⟨_, rfl⟩
  obtain ⟨g5, hg5⟩ : ∃ x, g / 15 = x := ⟨_, rfl⟩
  obtain ⟨s3, hs3⟩ : ∃ x, s / 3 = x := ⟨_, rfl⟩
  rw [hg, hs, hg3, hg5, hs3] at E
  rw [hs] at h
  have b8 : (s : Int) < 15 := by omega
  have i1 : (g : Int) / 3 = (g3 : Int) := by omega
  have i2 : (g : Int) / 15 = (g5 : Int) := by omega
  have i3 : (s : Int) / 3 = (s3 : Int) := by omega
  have g1 : (p : Int) % 60 = (g : Int) := by omega
  have s1 : (q : Int) % 75 = (s : Int) := by omega
  have g2 : g < 60 := by omega
  have s2 : s < 75 := by omega
  have j1 : g3 < 60 := by omega
  have j2 : g5 < 60 := by omega
  have j3 : s3 < 75 := by omega
  clear hg hs hg3 hg5 hs3 h
  have b0 : (0 : Int) ≤ (p : Int) := by omega
  have b1 : (0 : Int) ≤ (q : Int) := by omega
  have b2 : (p : Int) < 256 := by omega
  have b3 : (q : Int) < 256 := by omega
  have b4 : (0 : Int) ≤ (g : Int) := by omega
  have b5 : (0 : Int) ≤ (s : Int) := by omega
  have b6 : (g : Int) < 60 := by omega
  have b7 : (s : Int) < 75 := by omega
  go_enter Try.func30, Try.ntmps30
  go_wp2_with fail
  go_quiet (fail)
  go_wp2_with fail
  refine (space_any g _ (by omega)).mono ?_
  rintro e w1 ⟨rfl, hw1⟩
  go_wp2_with fail
  refine (id_any g3 _ (by omega)).mono ?_
  rintro e w2 ⟨rfl, hw2⟩
  go_wp2_with fail
  refine (rel_any g5 _ (by omega)).mono ?_
  rintro e w3 ⟨rfl, hw3⟩
  go_wp2_with fail
  refine (space_any s _ (by omega)).mono ?_
  rintro e w4 ⟨rfl, hw4⟩
  go_wp2_with fail
  refine (id_any s3 _ (by omega)).mono ?_
  rintro e w5 ⟨rfl, hw5⟩
  have hW := gw_trans (gw_trans (gw_trans (gw_trans hw1 hw2) hw3) hw4) hw5
  have own := own_cells hW.toBelow (w.heap.size + 1) (by simp)
  have rc0 : w5.cell? ⟨w.heap.size + 1, 0, none⟩ = some (.string ⟨#[]⟩) := (own 0).1.trans (by go_simp)
  have rf0 : w5.frozen? ⟨w.heap.size + 1, 0, none⟩ = false := (own 0).2.trans (by go_simp)
  have rc1 : w5.cell? ⟨w.heap.size + 1, 1, none⟩ = some (.string ⟨#[]⟩) := (own 1).1.trans (by go_simp)
  have rf1 : w5.frozen? ⟨w.heap.size + 1, 1, none⟩ = false := (own 1).2.trans (by go_simp)
  have rc2 : w5.cell? ⟨w.heap.size + 1, 2, none⟩ = some (.string ⟨#[]⟩) := (own 2).1.trans (by go_simp)
  have rf2 : w5.frozen? ⟨w.heap.size + 1, 2, none⟩ = false := (own 2).2.trans (by go_simp)
  have rc3 : w5.cell? ⟨w.heap.size + 1, 3, none⟩ = some (.string ⟨#[]⟩) := (own 3).1.trans (by go_simp)
  have rf3 : w5.frozen? ⟨w.heap.size + 1, 3, none⟩ = false := (own 3).2.trans (by go_simp)
  have rc4 : w5.cell? ⟨w.heap.size + 1, 4, none⟩ = some (.string ⟨#[]⟩) := (own 4).1.trans (by go_simp)
  have rf4 : w5.frozen? ⟨w.heap.size + 1, 4, none⟩ = false := (own 4).2.trans (by go_simp)
  have rc5 : w5.cell? ⟨w.heap.size + 1, 5, none⟩ = some (.string ⟨#[]⟩) := (own 5).1.trans (by go_simp)
  have rf5 : w5.frozen? ⟨w.heap.size + 1, 5, none⟩ = false := (own 5).2.trans (by go_simp)
  have hz : w.heap.size + 1 < w5.heap.size := by have := hW.size; simp at this; omega
  have HW : Grew w w5 := gw_trans (gw_drewN (gw_alloc (gw_alloc gw_refl _) _) _) hW
  clear own hW hw1 hw2 hw3 hw4 hw5
  go_wp2
  exact bodyPost_ret (v := val ⟨spc g, idS g3, relS g5, spc s, idS s3, ⟨#[]⟩⟩) (by simp [results, Try.results30, go_sem, val, rc0, rc1, rc2, rc3, rc4, rc5, hz]) rfl ⟨by rw [E.out], gw_alloc (gw_set (gw_set (gw_set (gw_set (gw_set (gw_set HW (by simp) _) (by simp) _) (by simp) _) (by simp) _) (by simp) _) (by simp) _) _⟩

set_option maxRecDepth 100000 in
set_option maxHeartbeats 2000000 in
theorem one_any (p q : Nat) (w : World) (hp : p < 256) (hq : q < 256) :
    Calls Try.prog 30 #[.agg #[.int .u8 p, .int .u8 q]] w fun e w' => e = .returned (val (one p q)) ∧ Grew w w' := by
  by_cases h : 15 ≤ q % 75
  · have E := hid (one_big (p := p) h)
    obtain ⟨g, hg⟩ : ∃ g, p % 60 = g := ⟨_, rfl⟩
    obtain ⟨s, hs⟩ : ∃ s, q % 75 = s := ⟨_, rfl⟩
    obtain ⟨g3, hg3⟩ : ∃ x, g / 3 = x := ⟨_, rfl⟩
    obtain ⟨g5, hg5⟩ : ∃ x, g / 15 = x := ⟨_, rfl⟩
    obtain ⟨s3, hs3⟩ : ∃ x, s / 3 = x := ⟨_, rfl⟩
    obtain ⟨r, hr⟩ : ∃ x, s / 15 - 1 = x := ⟨_, rfl⟩
    rw [hg, hs, hg3, hg5, hs3, hr] at E
    rw [hs] at h
    have i4 : (s : Int) / 15 = (r : Int) + 1 := by omega
    have j4 : r < 75 := by omega
    have b8 : (15 : Int) ≤ (s : Int) := by omega
    have b9 : (0 : Int) ≤ (r : Int) := by omega
    have b10 : (r : Int) < 75 := by omega
    have i1 : (g : Int) / 3 = (g3 : Int) := by omega
    have i2 : (g : Int) / 15 = (g5 : Int) := by omega
    have i3 : (s : Int) / 3 = (s3 : Int) := by omega
    have g1 : (p : Int) % 60 = (g : Int) := by omega
    have s1 : (q : Int) % 75 = (s : Int) := by omega
    have g2 : g < 60 := by omega
    have s2 : s < 75 := by omega
    have j1 : g3 < 60 := by omega
    have j2 : g5 < 60 := by omega
    have j3 : s3 < 75 := by omega
    clear hg hs hg3 hg5 hs3 hr h
    have b0 : (0 : Int) ≤ (p : Int) := by omega
    have b1 : (0 : Int) ≤ (q : Int) := by omega
    have b2 : (p : Int) < 256 := by omega
    have b3 : (q : Int) < 256 := by omega
    have b4 : (0 : Int) ≤ (g : Int) := by omega
    have b5 : (0 : Int) ≤ (s : Int) := by omega
    have b6 : (g : Int) < 60 := by omega
    have b7 : (s : Int) < 75 := by omega
    go_enter Try.func30, Try.ntmps30
    go_wp2_with fail
    go_quiet (fail)
    go_wp2_with fail
    refine (space_any g _ (by omega)).mono ?_
    rintro e w1 ⟨rfl, hw1⟩
    go_wp2_with fail
    refine (id_any g3 _ (by omega)).mono ?_
    rintro e w2 ⟨rfl, hw2⟩
    go_wp2_with fail
    refine (rel_any g5 _ (by omega)).mono ?_
    rintro e w3 ⟨rfl, hw3⟩
    go_wp2_with fail
    refine (space_any s _ (by omega)).mono ?_
    rintro e w4 ⟨rfl, hw4⟩
    go_wp2_with fail
    refine (id_any s3 _ (by omega)).mono ?_
    rintro e w5 ⟨rfl, hw5⟩
    have hW := gw_trans (gw_trans (gw_trans (gw_trans hw1 hw2) hw3) hw4) hw5
    have own := own_cells hW.toBelow (w.heap.size + 1) (by simp)
    have rc0 : w5.cell? ⟨w.heap.size + 1, 0, none⟩ = some (.string ⟨#[]⟩) := (own 0).1.trans (by go_simp)
    have rf0 : w5.frozen? ⟨w.heap.size + 1, 0, none⟩ = false := (own 0).2.trans (by go_simp)
    have rc1 : w5.cell? ⟨w.heap.size + 1, 1, none⟩ = some (.string ⟨#[]⟩) := (own 1).1.trans (by go_simp)
    have rf1 : w5.frozen? ⟨w.heap.size + 1, 1, none⟩ = false := (own 1).2.trans (by go_simp)
    have rc2 : w5.cell? ⟨w.heap.size + 1, 2, none⟩ = some (.string ⟨#[]⟩) := (own 2).1.trans (by go_simp)
    have rf2 : w5.frozen? ⟨w.heap.size + 1, 2, none⟩ = false := (own 2).2.trans (by go_simp)
    have rc3 : w5.cell? ⟨w.heap.size + 1, 3, none⟩ = some (.string ⟨#[]⟩) := (own 3).1.trans (by go_simp)
    have rf3 : w5.frozen? ⟨w.heap.size + 1, 3, none⟩ = false := (own 3).2.trans (by go_simp)
    have rc4 : w5.cell? ⟨w.heap.size + 1, 4, none⟩ = some (.string ⟨#[]⟩) := (own 4).1.trans (by go_simp)
    have rf4 : w5.frozen? ⟨w.heap.size + 1, 4, none⟩ = false := (own 4).2.trans (by go_simp)
    have rc5 : w5.cell? ⟨w.heap.size + 1, 5, none⟩ = some (.string ⟨#[]⟩) := (own 5).1.trans (by go_simp)
    have rf5 : w5.frozen? ⟨w.heap.size + 1, 5, none⟩ = false := (own 5).2.trans (by go_simp)
    have hz : w.heap.size + 1 < w5.heap.size := by have := hW.size; simp at this; omega
    have HW : Grew w w5 := gw_trans (gw_drewN (gw_alloc (gw_alloc gw_refl _) _) _) hW
    clear own hW hw1 hw2 hw3 hw4 hw5
    go_wp2_with fail
    refine (rel_any r _ (by omega)).mono ?_
    rintro e w6 ⟨rfl, hw6⟩
    have hz6 : w5.heap.size < w6.heap.size := by have := hw6.size; simp at this; omega
    have own := own_cells hw6.toBelow (w.heap.size + 1) (by simp; omega)
    have xc0 : w6.cell? ⟨w.heap.size + 1, 0, none⟩ = some (.string ⟨#[]⟩) := (own 0).1.trans (by go_simp)
    have xf0 : w6.frozen? ⟨w.heap.size + 1, 0, none⟩ = false := (own 0).2.trans (by go_simp)
    have xc1 : w6.cell? ⟨w.heap.size + 1, 1, none⟩ = some (.string ⟨#[]⟩) := (own 1).1.trans (by go_simp)
    have xf1 : w6.frozen? ⟨w.heap.size + 1, 1, none⟩ = false := (own 1).2.trans (by go_simp)
    have xc2 : w6.cell? ⟨w.heap.size + 1, 2, none⟩ = some (.string ⟨#[]⟩) := (own 2).1.trans (by go_simp)
    have xf2 : w6.frozen? ⟨w.heap.size + 1, 2, none⟩ = false := (own 2).2.trans (by go_simp)
    have xc3 : w6.cell? ⟨w.heap.size + 1, 3, none⟩ = some (.string ⟨#[]⟩) := (own 3).1.trans (by go_simp)
    have xf3 : w6.frozen? ⟨w.heap.size + 1, 3, none⟩ = false := (own 3).2.trans (by go_simp)
    have xc4 : w6.cell? ⟨w.heap.size + 1, 4, none⟩ = some (.string ⟨#[]⟩) := (own 4).1.trans (by go_simp)
    have xf4 : w6.frozen? ⟨w.heap.size + 1, 4, none⟩ = false := (own 4).2.trans (by go_simp)
    have xc5 : w6.cell? ⟨w.heap.size + 1, 5, none⟩ = some (.string ⟨#[]⟩) := (own 5).1.trans (by go_simp)
    have xf5 : w6.frozen? ⟨w.heap.size + 1, 5, none⟩ = false := (own 5).2.trans (by go_simp)
    clear own
    have own := own_cells hw6.toBelow w5.heap.size (by simp)
    have yc0 : w6.cell? ⟨w5.heap.size, 0, none⟩ = some (.string (spc g)) := (own 0).1.trans (by go_simp)
    have yf0 : w6.frozen? ⟨w5.heap.size, 0, none⟩ = false := (own 0).2.trans (by go_simp)
    have yc1 : w6.cell? ⟨w5.heap.size, 1, none⟩ = some (.string (idS g3)) := (own 1).1.trans (by go_simp)
    have yf1 : w6.frozen? ⟨w5.heap.size, 1, none⟩ = false := (own 1).2.trans (by go_simp)
    have yc2 : w6.cell? ⟨w5.heap.size, 2, none⟩ = some (.string (relS g5)) := (own 2).1.trans (by go_simp)
    have yf2 : w6.frozen? ⟨w5.heap.size, 2, none⟩ = false := (own 2).2.trans (by go_simp)
    have yc3 : w6.cell? ⟨w5.heap.size, 3, none⟩ = some (.string (spc s)) := (own 3).1.trans (by go_simp)
    have yf3 : w6.frozen? ⟨w5.heap.size, 3, none⟩ = false := (own 3).2.trans (by go_simp)
    have yc4 : w6.cell? ⟨w5.heap.size, 4, none⟩ = some (.string (idS s3)) := (own 4).1.trans (by go_simp)
    have yf4 : w6.frozen? ⟨w5.heap.size, 4, none⟩ = false := (own 4).2.trans (by go_simp)
    have yc5 : w6.cell? ⟨w5.heap.size, 5, none⟩ = some (.string ⟨#[]⟩) := (own 5).1.trans (by go_simp)
    have yf5 : w6.frozen? ⟨w5.heap.size, 5, none⟩ = false := (own 5).2.trans (by go_simp)
    clear own
    have HW6 : Grew w w6 := gw_trans (gw_alloc HW _) hw6
    have hle : w.heap.size ≤ w5.heap.size := by omega
    clear hw6 rc0 rc1 rc2 rc3 rc4 rc5 rf0 rf1 rf2 rf3 rf4 rf5
    go_wp2
    exact bodyPost_ret (v := val ⟨spc g, idS g3, relS g5, spc s, idS s3, relS r⟩) (by simp [results, Try.results30, go_sem, val, *]) rfl ⟨by rw [E.out], gw_set (gw_set (gw_set (gw_set (gw_set (gw_set (gw_set HW6 (by simp; omega) _) (by simp) _) (by simp) _) (by simp) _) (by simp) _) (by simp) _) (by simp) _⟩
  · exact one_lo p q w hp hq h

/-- the tuples of a T's numbers -/
def ofT (x : List (Nat × Nat)) : List Tup := (x.take 20).map fun p => one p.1 p.2
end Go.Proofs.Ytgfgfggoofjeeaa
