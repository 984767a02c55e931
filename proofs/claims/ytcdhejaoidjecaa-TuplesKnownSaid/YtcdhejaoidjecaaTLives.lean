/-
  lives returns true: the examples of the chapter hold.
-/
import Derived.Test.YtcdhejaoidjecaaTRead
namespace Go.Proofs.Ytcdhejaoidjecaa
open Go.RowKit Go.Sort

def tA : Tup := ⟨⟨#[97]⟩, ⟨#[120]⟩, ⟨#[114]⟩, ⟨#[117]⟩, ⟨#[97]⟩, ⟨#[]⟩⟩
def tB : Tup := ⟨⟨#[97]⟩, ⟨#[120]⟩, ⟨#[114]⟩, ⟨#[117]⟩, ⟨#[98]⟩, ⟨#[]⟩⟩
def tC : Tup := ⟨⟨#[98]⟩, ⟨#[120]⟩, ⟨#[114]⟩, ⟨#[117]⟩, ⟨#[97]⟩, ⟨#[]⟩⟩
def tD : Tup := ⟨⟨#[99]⟩, ⟨#[120]⟩, ⟨#[114]⟩, ⟨#[117]⟩, ⟨#[97]⟩, ⟨#[]⟩⟩
def tT : Tup := ⟨⟨#[100, 111, 99]⟩, ⟨#[97]⟩, ⟨#[118, 105, 101, 119, 101, 114]⟩, ⟨#[103, 114, 111, 117, 112]⟩, ⟨#[101, 110, 103]⟩, ⟨#[109, 101, 109, 98, 101, 114]⟩⟩
theorem lv0 : ptup ⟨#[100, 111, 99, 58, 97, 35, 118, 105, 101, 119, 101, 114, 64, 103, 114, 111, 117, 112, 58, 101, 110, 103, 35, 109, 101, 109, 98, 101, 114]⟩ = (tT, 0) := by decide +kernel
theorem lv1 : ptup ⟨#[100, 111, 99, 58, 97, 35, 118, 105, 101, 119, 101, 114]⟩ = (⟨⟨#[]⟩, ⟨#[]⟩, ⟨#[]⟩, ⟨#[]⟩, ⟨#[]⟩, ⟨#[]⟩⟩, 5) := by decide +kernel
theorem lv2 : ptup ⟨#[100, 111, 99, 58, 97, 64, 117, 115, 101, 114, 58, 98]⟩ = (⟨⟨#[]⟩, ⟨#[]⟩, ⟨#[]⟩, ⟨#[]⟩, ⟨#[]⟩, ⟨#[]⟩⟩, 5) := by decide +kernel
theorem lv3 : ptup ⟨#[100, 111, 99, 58, 97, 35, 118, 64, 64, 117, 58, 98]⟩ = (⟨⟨#[]⟩, ⟨#[]⟩, ⟨#[]⟩, ⟨#[]⟩, ⟨#[]⟩, ⟨#[]⟩⟩, 5) := by decide +kernel
theorem lv4 : ptup ⟨#[100, 111, 99, 58, 97, 35, 118, 64, 85, 58, 98]⟩ = (⟨⟨#[]⟩, ⟨#[]⟩, ⟨#[]⟩, ⟨#[]⟩, ⟨#[]⟩, ⟨#[]⟩⟩, 6) := by decide +kernel
theorem lrA : rtup ⟨#[97, 58, 120, 35, 114, 64, 117, 58, 97]⟩ = (tA, 0) := by decide +kernel
theorem lrB : rtup ⟨#[97, 58, 120, 35, 114, 64, 117, 58, 98]⟩ = (tB, 0) := by decide +kernel
theorem lrC : rtup ⟨#[98, 58, 120, 35, 114, 64, 117, 58, 97]⟩ = (tC, 0) := by decide +kernel
theorem lrD : rtup ⟨#[99, 58, 120, 35, 114, 64, 117, 58, 97]⟩ = (tD, 0) := by decide +kernel
theorem l_srt : srt cmpT [tC, tB, tA, tC] = [tA, tB, tC] := by decide +kernel
theorem l_fnd : fnd cmpT [tA, tB, tC] tB = 1 := by decide +kernel
theorem l_fnd2 : fnd cmpT [tA, tB, tC] tD = 3 := by decide +kernel
theorem l_in : decide (tB ∈ [tA, tB, tC]) = true := by decide +kernel
theorem l_in2 : decide (tD ∈ [tA, tB, tC]) = false := by decide +kernel
theorem l_asc : isB cmpT [tA, tB, tC] = true := by decide +kernel
theorem l_no : isB cmpT [tC, tB] = false := by decide +kernel
theorem l_same : sameI [tA, tB, tC] [tA, tB, tC] = 1 := by decide +kernel
theorem l_text : txtT tT = ⟨#[100, 111, 99, 58, 97, 35, 118, 105, 101, 119, 101, 114, 64, 103, 114, 111, 117, 112, 58, 101, 110, 103, 35, 109, 101, 109, 98, 101, 114]⟩ := by decide +kernel
theorem l_small : Small tT := ⟨by decide, by decide, by decide, by decide, by decide, by decide⟩
theorem ok40 (s : ByteArray) (h : s.size ≤ 200) : s.size ≤ maxLen := Nat.le_trans h (by decide)

/-- Sorted, as lives uses it -/
theorem lv_sort (b : Nat) (w : World) (hR : Row w (some ⟨b, 0, none⟩) [tC, tB, tA, tC]) :
    Calls Try.prog 39 #[.slice (some ⟨b, 0, none⟩) 4 4] w fun e w' => ∃ g, e = .returned (.slice (some ⟨g, 0, none⟩) 3 3) ∧ Row w' (some ⟨g, 0, none⟩) [tA, tB, tC] ∧ Below w.heap.size w w' := by
  refine (tsorted (some ⟨b, 0, none⟩) [tC, tB, tA, tC] 4 w hR (.inr ⟨b, 0, rfl⟩) (by decide)).mono fun e w' h => ?_
  obtain ⟨A, he, hRA, hg, hA, hn⟩ := h
  rw [l_srt] at he hRA hn
  rcases hA with rfl | ⟨g, rfl⟩
  · exact absurd (hn rfl) (by decide)
  · exact ⟨g, he, hRA, hg.toBelow⟩
theorem lv_find (A : Option Addr) (w : World) (hR : Row w A [tA, tB, tC]) :
    Calls Try.prog 12 #[.slice A 3 3, .agg #[.string ⟨#[97]⟩, .string ⟨#[120]⟩, .string ⟨#[114]⟩, .string ⟨#[117]⟩, .string ⟨#[98]⟩, .string ⟨#[]⟩]] w fun e w' => e = .returned (.tuple #[.int .i64 1, .bool true]) ∧ Below w.heap.size w w' := by
  refine (tfind A [tA, tB, tC] 3 tB w hR l_asc (by decide)).mono fun e w' h => ⟨?_, h.2.toBelow⟩
  rw [h.1, l_fnd, l_in]; rfl
theorem lv_find2 (A : Option Addr) (w : World) (hR : Row w A [tA, tB, tC]) :
    Calls Try.prog 12 #[.slice A 3 3, .agg #[.string ⟨#[99]⟩, .string ⟨#[120]⟩, .string ⟨#[114]⟩, .string ⟨#[117]⟩, .string ⟨#[97]⟩, .string ⟨#[]⟩]] w fun e w' => e = .returned (.tuple #[.int .i64 3, .bool false]) ∧ Below w.heap.size w w' := by
  refine (tfind A [tA, tB, tC] 3 tD w hR l_asc (by decide)).mono fun e w' h => ⟨?_, h.2.toBelow⟩
  rw [h.1, l_fnd2, l_in2]; rfl
theorem lv_same (A B : Option Addr) (w : World) (hR : Row w A [tA, tB, tC]) (hS : Row w B [tA, tB, tC]) :
    Calls Try.prog 41 #[.slice A 3 3, .slice B 3 3] w fun e w' => e = .returned (.int .i64 1) ∧ Below w.heap.size w w' := by
  refine (rsame A B [tA, tB, tC] [tA, tB, tC] 3 3 w hR hS (by decide)).mono fun e w' h => ⟨?_, h.2.toBelow⟩
  rw [h.1, l_same]
theorem lv_union (A : Option Addr) (w : World) (hR : Row w A [tC, tB]) :
    Calls Try.prog 9 #[.slice A 2 2, .slice none 0 0] w fun e w' => e = .returned (.tuple #[.slice none 0 0, .int .i64 18]) ∧ Below w.heap.size w w' :=
  (union_no _ _ 18 w (choose_order _ A none [tC, tB] [] 2 0 w hR (Row.nil _ _) (by decide) (by decide) (.inl l_no))).mono fun e w' h => ⟨h.1, h.2.toBelow⟩
theorem lv_text (w : World) :
    Calls Try.prog 40 #[.agg #[.string ⟨#[100, 111, 99]⟩, .string ⟨#[97]⟩, .string ⟨#[118, 105, 101, 119, 101, 114]⟩, .string ⟨#[103, 114, 111, 117, 112]⟩, .string ⟨#[101, 110, 103]⟩, .string ⟨#[109, 101, 109, 98, 101, 114]⟩]] w fun e w' => e = .returned (.string ⟨#[100, 111, 99, 58, 97, 35, 118, 105, 101, 119, 101, 114, 64, 103, 114, 111, 117, 112, 58, 101, 110, 103, 35, 109, 101, 109, 98, 101, 114]⟩) ∧ Below w.heap.size w w' := by
  refine (ttext tT w l_small).mono fun e w' h => ⟨?_, h.2⟩
  rw [h.1, l_text]

/-- the texts that are wrong, and their errors -/
def Wr (p q : Nat) (w : World) : Prop :=
  w.cell? ⟨p, 0, none⟩ = some (.string ⟨#[100, 111, 99, 58, 97, 35, 118, 105, 101, 119, 101, 114]⟩) ∧ w.cell? ⟨p, 1, none⟩ = some (.string ⟨#[100, 111, 99, 58, 97, 64, 117, 115, 101, 114, 58, 98]⟩) ∧ w.cell? ⟨p, 2, none⟩ = some (.string ⟨#[100, 111, 99, 58, 97, 35, 118, 64, 64, 117, 58, 98]⟩) ∧ w.cell? ⟨p, 3, none⟩ = some (.string ⟨#[100, 111, 99, 58, 97, 35, 118, 64, 85, 58, 98]⟩) ∧ w.cell? ⟨q, 0, none⟩ = some (.int .i64 5) ∧ w.cell? ⟨q, 1, none⟩ = some (.int .i64 5) ∧ w.cell? ⟨q, 2, none⟩ = some (.int .i64 5) ∧ w.cell? ⟨q, 3, none⟩ = some (.int .i64 6) ∧ p < w.heap.size ∧ q < w.heap.size
theorem Wr.keep {p q : Nat} {w w' : World} (h : Wr p q w) (hb : Below w.heap.size w w') : Wr p q w' := by
  obtain ⟨h0, h1, h2, h3, e0, e1, e2, e3, hp, hq⟩ := h
  exact ⟨(own_cells hb _ hp _).1.trans h0, (own_cells hb _ hp _).1.trans h1, (own_cells hb _ hp _).1.trans h2, (own_cells hb _ hp _).1.trans h3, (own_cells hb _ hq _).1.trans e0, (own_cells hb _ hq _).1.trans e1, (own_cells hb _ hq _).1.trans e2, (own_cells hb _ hq _).1.trans e3, Nat.lt_of_lt_of_le hp hb.size, Nat.lt_of_lt_of_le hq hb.size⟩

/-- a tuple lies in a block of its own -/
def Tc (w : World) (b : Nat) (x : Tup) : Prop :=
  w.cell? ⟨b, 0, none⟩ = some (.string x.a) ∧ w.cell? ⟨b, 1, none⟩ = some (.string x.b) ∧ w.cell? ⟨b, 2, none⟩ = some (.string x.c) ∧ w.cell? ⟨b, 3, none⟩ = some (.string x.d) ∧ w.cell? ⟨b, 4, none⟩ = some (.string x.e) ∧ w.cell? ⟨b, 5, none⟩ = some (.string x.f) ∧ b < w.heap.size
theorem Tc.keep {w w' : World} {b : Nat} {x : Tup} (h : Tc w b x) (hb : Below w.heap.size w w') : Tc w' b x := by
  obtain ⟨h0, h1, h2, h3, h4, h5, h6⟩ := h
  exact ⟨(own_cells hb _ h6 _).1.trans h0, (own_cells hb _ h6 _).1.trans h1, (own_cells hb _ h6 _).1.trans h2, (own_cells hb _ h6 _).1.trans h3, (own_cells hb _ h6 _).1.trans h4, (own_cells hb _ h6 _).1.trans h5, Nat.lt_of_lt_of_le h6 hb.size⟩
theorem row_new (w : World) (b : Nat) (hb : b = w.heap.size) (l : List Tup) (cs : Array Value) (t : TypeId) (h : (flat l).toArray = cs) : Row (w.alloc (.cells cs t)) (some ⟨b, 0, none⟩) l := by
  subst hb; exact row_lit w l cs t h

set_option maxRecDepth 100000 in
set_option maxHeartbeats 8000000 in
theorem lives_any (w : World) :
    Calls Try.prog 13 #[] w fun e w' => e = .returned (.bool true) ∧ Below w.heap.size w w' := by
  go_enter Try.func13, Try.ntmps13
  go_wp2_with fail
  refine (tparse_v ⟨#[100, 111, 99, 58, 97, 35, 118, 105, 101, 119, 101, 114, 64, 103, 114, 111, 117, 112, 58, 101, 110, 103, 35, 109, 101, 109, 98, 101, 114]⟩ tT 0 _ (by decide) lv0).mono ?_
  rintro r w1 ⟨rfl, hw1⟩
  simp only [tT]
  go_wp2
  go_loopw [5] (fun i wq => ∃ k : Nat, k ≤ 4 ∧ i = .int .i64 k ∧ Below w.heap.size w wq ∧ Wr (w1.heap.size + 1) (w1.heap.size + 2) wq ∧ Tc wq w1.heap.size tT) (fun i _ => 4 - (intOf i).toNat)
  case atStart =>
    refine ⟨0, by omega, rfl, g_alloc (g_alloc (g_alloc hw1 _) _) _, ⟨by go_simp, by go_simp, by go_simp, by go_simp, by go_simp, by go_simp, by go_simp, by go_simp, by simp, by simp⟩, ?_⟩
    simp only [Tc, tT]
    exact ⟨by go_simp, by go_simp, by go_simp, by go_simp, by go_simp, by go_simp, by simp; omega⟩
  case round =>
    clear hw1
    obtain ⟨k, hk, rfl, hB, hWr, hT⟩ := hrel
    have HWR := hid hWr
    have HT := hid hT; clear hT
    obtain ⟨c0, c1, c2, c3, -⟩ := hWr
    by_cases hlt : k < 4
    · rcases (show k = 0 ∨ k = 1 ∨ k = 2 ∨ k = 3 by omega) with rfl | rfl | rfl | rfl
      · go_wp2_with fail
        refine (tparse_v ⟨#[100, 111, 99, 58, 97, 35, 118, 105, 101, 119, 101, 114]⟩ ⟨⟨#[]⟩, ⟨#[]⟩, ⟨#[]⟩, ⟨#[]⟩, ⟨#[]⟩, ⟨#[]⟩⟩ 5 _ (by decide) lv1).mono ?_
        rintro r w2 ⟨rfl, hw2⟩
        obtain ⟨-, -, -, -, d0, d1, d2, d3, l1, l2⟩ := HWR.out.keep hw2
        go_wp2
        go_roundw
        case rel => exact ⟨0+1, by omega, by go_num, g_alloc (g_trans hB hw2) _, (HWR.out.keep hw2).keep (g_alloc g_refl _), (HT.out.keep hw2).keep (g_alloc g_refl _)⟩
        case measure => simp [intOf]
      · go_wp2_with fail
        refine (tparse_v ⟨#[100, 111, 99, 58, 97, 64, 117, 115, 101, 114, 58, 98]⟩ ⟨⟨#[]⟩, ⟨#[]⟩, ⟨#[]⟩, ⟨#[]⟩, ⟨#[]⟩, ⟨#[]⟩⟩ 5 _ (by decide) lv2).mono ?_
        rintro r w2 ⟨rfl, hw2⟩
        obtain ⟨-, -, -, -, d0, d1, d2, d3, l1, l2⟩ := HWR.out.keep hw2
        go_wp2
        go_roundw
        case rel => exact ⟨1+1, by omega, by go_num, g_alloc (g_trans hB hw2) _, (HWR.out.keep hw2).keep (g_alloc g_refl _), (HT.out.keep hw2).keep (g_alloc g_refl _)⟩
        case measure => simp [intOf]
      · go_wp2_with fail
        refine (tparse_v ⟨#[100, 111, 99, 58, 97, 35, 118, 64, 64, 117, 58, 98]⟩ ⟨⟨#[]⟩, ⟨#[]⟩, ⟨#[]⟩, ⟨#[]⟩, ⟨#[]⟩, ⟨#[]⟩⟩ 5 _ (by decide) lv3).mono ?_
        rintro r w2 ⟨rfl, hw2⟩
        obtain ⟨-, -, -, -, d0, d1, d2, d3, l1, l2⟩ := HWR.out.keep hw2
        go_wp2
        go_roundw
        case rel => exact ⟨2+1, by omega, by go_num, g_alloc (g_trans hB hw2) _, (HWR.out.keep hw2).keep (g_alloc g_refl _), (HT.out.keep hw2).keep (g_alloc g_refl _)⟩
        case measure => simp [intOf]
      · go_wp2_with fail
        refine (tparse_v ⟨#[100, 111, 99, 58, 97, 35, 118, 64, 85, 58, 98]⟩ ⟨⟨#[]⟩, ⟨#[]⟩, ⟨#[]⟩, ⟨#[]⟩, ⟨#[]⟩, ⟨#[]⟩⟩ 6 _ (by decide) lv4).mono ?_
        rintro r w2 ⟨rfl, hw2⟩
        obtain ⟨-, -, -, -, d0, d1, d2, d3, l1, l2⟩ := HWR.out.keep hw2
        go_wp2
        go_roundw
        case rel => exact ⟨3+1, by omega, by go_num, g_alloc (g_trans hB hw2) _, (HWR.out.keep hw2).keep (g_alloc g_refl _), (HT.out.keep hw2).keep (g_alloc g_refl _)⟩
        case measure => simp [intOf]
    · obtain rfl : k = 4 := by omega
      clear c0 c1 c2 c3
      go_wp2_with fail
      refine (read_v ⟨#[97, 58, 120, 35, 114, 64, 117, 58, 97]⟩ tA 0 _ (by decide) lrA).mono ?_
      rintro r w2 ⟨rfl, hw2⟩
      simp only [tA]
      go_wp2_with fail
      refine (read_v ⟨#[97, 58, 120, 35, 114, 64, 117, 58, 98]⟩ tB 0 _ (by decide) lrB).mono ?_
      rintro r w3 ⟨rfl, hw3⟩
      simp only [tB]
      go_wp2_with fail
      refine (read_v ⟨#[98, 58, 120, 35, 114, 64, 117, 58, 97]⟩ tC 0 _ (by decide) lrC).mono ?_
      rintro r w4 ⟨rfl, hw4⟩
      simp only [tC]
      have HT4 := hid (((HT.out.keep hw2).keep hw3).keep hw4)
      have hB4 : Below w.heap.size w w4 := g_trans (g_trans (g_trans hB hw2) hw3) hw4
      clear HWR HT hB hw2 hw3 hw4
      go_wp2_with fail
      refine (lv_sort _ _ (row_new _ _ (by simp) [tC, tB, tA, tC] _ _ rfl)).mono ?_
      rintro r w6 ⟨g, rfl, hRL, hw6⟩
      have HRL := hid hRL; clear hRL
      have hB6 : Below w.heap.size w w6 := g_trans (g_alloc (g_alloc (g_alloc (g_alloc hB4 _) _) _) _) hw6
      have TT6 := hid (((((HT4.out.keep (g_alloc g_refl _)).keep (g_alloc g_refl _)).keep (g_alloc g_refl _)).keep (g_alloc g_refl _)).keep hw6)
      have TA6 : Hid (Tc w6 w4.heap.size tA) := hid (Tc.keep (by simp only [Tc, tA]; exact ⟨by go_simp, by go_simp, by go_simp, by go_simp, by go_simp, by go_simp, by simp; try omega⟩) hw6)
      have TB6 : Hid (Tc w6 (w4.heap.size + 1) tB) := hid (Tc.keep (by simp only [Tc, tB]; exact ⟨by go_simp, by go_simp, by go_simp, by go_simp, by go_simp, by go_simp, by simp; try omega⟩) hw6)
      have TC6 : Hid (Tc w6 (w4.heap.size + 1 + 1) tC) := hid (Tc.keep (by simp only [Tc, tC]; exact ⟨by go_simp, by go_simp, by go_simp, by go_simp, by go_simp, by go_simp, by simp; try omega⟩) hw6)
      clear hw6 HT4 hB4
      have t := TT6.out
      simp only [Tc, tT] at t
      obtain ⟨t0, t1, t2, t3, t4, t5, t6⟩ := t
      go_wp2_with fail
      clear t0 t1 t2 t3 t4 t5 t6 TT6
      refine (lv_text _).mono ?_
      rintro r w7 ⟨rfl, hw7⟩
      have hB7 : Below w.heap.size w w7 := g_trans hB6 hw7
      have HRL7 := hid (HRL.out.below hw7)
      have TA7 := hid (TA6.out.keep hw7)
      have TB7 := hid (TB6.out.keep hw7)
      have TC7 := hid (TC6.out.keep hw7)
      clear hw7 hB6 HRL TA6 TB6 TC6
      have a := TA7.out
      simp only [Tc, tA] at a
      obtain ⟨a0, a1, a2, a3, a4, a5, a6⟩ := a
      have b := TB7.out
      simp only [Tc, tB] at b
      obtain ⟨b0, b1, b2, b3, b4, b5, b6⟩ := b
      have c := TC7.out
      simp only [Tc, tC] at c
      obtain ⟨c0, c1, c2, c3, c4, c5, c6⟩ := c
      go_wp2_with fail
      clear a0 a1 a2 a3 a4 a5 a6 b0 b1 b2 b3 b4 b5 b6 c0 c1 c2 c3 c4 c5 c6
      refine (lv_same _ _ _ (HRL7.out.below (g_alloc g_refl _)) (row_new _ _ rfl [tA, tB, tC] _ _ rfl)).mono ?_
      rintro r w8 ⟨rfl, hw8⟩
      have hB8 : Below w.heap.size w w8 := g_trans (g_alloc hB7 _) hw8
      have HRL8 := hid ((HRL7.out.below (g_alloc g_refl _)).below hw8)
      have TA8 := hid ((TA7.out.keep (g_alloc g_refl _)).keep hw8)
      have TB8 := hid ((TB7.out.keep (g_alloc g_refl _)).keep hw8)
      have TC8 := hid ((TC7.out.keep (g_alloc g_refl _)).keep hw8)
      clear hw8 hB7 HRL7 TA7 TB7 TC7
      have b := TB8.out
      simp only [Tc, tB] at b
      obtain ⟨b0, b1, b2, b3, b4, b5, b6⟩ := b
      go_wp2_with fail
      clear b0 b1 b2 b3 b4 b5 b6
      refine (lv_find _ _ HRL8.out).mono ?_
      rintro r w9 ⟨rfl, hw9⟩
      have hB9 : Below w.heap.size w w9 := g_trans hB8 hw9
      have HRL9 := hid (HRL8.out.below hw9)
      have TA9 := hid (TA8.out.keep hw9)
      have TB9 := hid (TB8.out.keep hw9)
      have TC9 := hid (TC8.out.keep hw9)
      clear hw9 hB8 HRL8 TA8 TB8 TC8
      go_wp2_with fail
      refine (read_v ⟨#[99, 58, 120, 35, 114, 64, 117, 58, 97]⟩ tD 0 _ (by decide) lrD).mono ?_
      rintro r w10 ⟨rfl, hw10⟩
      simp only [tD]
      have hB10 : Below w.heap.size w w10 := g_trans hB9 hw10
      have HRL10 := hid (HRL9.out.below hw10)
      have TA10 := hid (TA9.out.keep hw10)
      have TB10 := hid (TB9.out.keep hw10)
      have TC10 := hid (TC9.out.keep hw10)
      clear hw10 hB9 HRL9 TA9 TB9 TC9
      go_wp2_with fail
      refine (lv_find2 _ _ HRL10.out).mono ?_
      rintro r w11 ⟨rfl, hw11⟩
      have hB11 : Below w.heap.size w w11 := g_trans hB10 hw11
      have TA11 := hid (TA10.out.keep hw11)
      have TB11 := hid (TB10.out.keep hw11)
      have TC11 := hid (TC10.out.keep hw11)
      clear hw11 hB10 HRL10 TA10 TB10 TC10
      have b := TB11.out
      simp only [Tc, tB] at b
      obtain ⟨b0, b1, b2, b3, b4, b5, b6⟩ := b
      have c := TC11.out
      simp only [Tc, tC] at c
      obtain ⟨c0, c1, c2, c3, c4, c5, c6⟩ := c
      go_wp2_with fail
      clear b0 b1 b2 b3 b4 b5 b6 c0 c1 c2 c3 c4 c5 c6
      refine (lv_union _ _ (row_new _ _ rfl [tC, tB] _ _ rfl)).mono ?_
      rintro r w12 ⟨rfl, hw12⟩
      have hB12 : Below w.heap.size w w12 := g_trans (g_alloc hB11 _) hw12
      clear hw12 hB11
      go_wp2_with fail
      go_ret
      exact ⟨rfl, hB12⟩

end Go.Proofs.Ytcdhejaoidjecaa
