/-
  THE CONTRACTS of names.parse and of the Parse functions.
-/
import Derived.Test.YtgfgfggoofjeeaaWCut
namespace Go.Proofs.Ytgfgfggoofjeeaa
open Go.RowKit

/-- the fields of a text that has from least to most signs, and the number of the error -/
def parseF (s : ByteArray) (least most : Int) : ByteArray × ByteArray × ByteArray × Int :=
  if ¬ Lib.countByte s.data.toList 58 = 1 ∨ (Lib.countByte s.data.toList 35 : Int) < least ∨ most < (Lib.countByte s.data.toList 35 : Int) then (⟨#[]⟩, ⟨#[]⟩, ⟨#[]⟩, 5)
  else if 0 ≤ Lib.indexByte (divF s).1.data.toList 35 then (⟨#[]⟩, ⟨#[]⟩, ⟨#[]⟩, 5)
  else if (nb (divF s).1 && nb (divF s).2.1 && (decide (Lib.countByte s.data.toList 35 = 0) || nb (divF s).2.2)) = true then ((divF s).1, (divF s).2.1, (divF s).2.2, 0)
  else (⟨#[]⟩, ⟨#[]⟩, ⟨#[]⟩, 6)

/-- what parse leaves -/
def ParseRet (s : ByteArray) (least most : Int) (w : World) (e : Ending) (w' : World) : Prop :=
  e = .returned (.tuple #[.agg #[.string (parseF s least most).1, .string (parseF s least most).2.1, .string (parseF s least most).2.2.1], .int .i64 (parseF s least most).2.2.2]) ∧ Below w.heap.size w w'

theorem cutB_size1 (s : ByteArray) (c : UInt8) : (cutB s c).1.size ≤ s.size := by
  unfold cutB; split
  · exact Nat.le_refl _
  · simp [ByteArray.size_extract]; omega
theorem div_sizes (s : ByteArray) : (divF s).1.size ≤ s.size ∧ (divF s).2.1.size ≤ s.size ∧ (divF s).2.2.size ≤ s.size :=
  ⟨cutB_size1 _ _, Nat.le_trans (cutB_size1 _ _) (cutB_size _ _), Nat.le_trans (cutB_size _ _) (cutB_size _ _)⟩
theorem divide_v (s sp id rel : ByteArray) (w : World) (hs : s.size ≤ maxLen) (h : divF s = (sp, id, rel)) :
    Calls Try.prog 108 #[.string s] w fun e w' => e = .returned (.agg #[.string sp, .string id, .string rel]) ∧ Below w.heap.size w w' := by
  have q := divide_any s w hs; rw [h] at q; exact q
theorem object_yes (a b : ByteArray) (w : World) (ha : a.size ≤ maxLen) (hb : b.size ≤ maxLen) (h : (nb a && nb b) = true) :
    Calls Try.prog 90 #[.agg #[.string a, .string b]] w fun e w' => e = .returned (.int .i64 0) ∧ Below w.heap.size w w' := by
  have q := object_any a b w ha hb; rw [h] at q; exact q
theorem object_no (a b : ByteArray) (w : World) (ha : a.size ≤ maxLen) (hb : b.size ≤ maxLen) (h : (nb a && nb b) = false) :
    Calls Try.prog 90 #[.agg #[.string a, .string b]] w fun e w' => e = .returned (.int .i64 6) ∧ Below w.heap.size w w' := by
  have q := object_any a b w ha hb; rw [h] at q; exact q

set_option maxHeartbeats 1000000 in
theorem parse_form (s : ByteArray) (least most : Int) (w : World) (k c : Nat) (hk : Lib.countByte s.data.toList 35 = k) (hc : Lib.countByte s.data.toList 58 = c) (h1 : ¬ c = 1 ∨ (k : Int) < least ∨ most < (k : Int)) :
    Calls Try.prog 94 #[.string s, .int .i64 least, .int .i64 most] w (ParseRet s least most w) := by
  have F : Hid (parseF s least most = (⟨#[]⟩, ⟨#[]⟩, ⟨#[]⟩, 5)) := by
    unfold parseF; rw [hk, hc, if_pos h1]; rfl
  have HK := hid hk; clear hk
  have HC := hid hc; clear hc
  have h2 : ¬ (c : Int) = 1 ∨ (k : Int) < least ∨ most < (k : Int) := by omega
  clear h1
  go_enter Try.func94, Try.ntmps94
  go_wp2_with fail
  refine (cnt s 35 k _ HK.out).mono ?_
  rintro e w' ⟨rfl, rfl⟩
  go_wp2_with fail
  refine (cnt s 58 c _ HC.out).mono ?_
  rintro e w' ⟨rfl, rfl⟩
  go_wp2_with fail
  all_goals first
    | omega
    | exact bodyPost_ret (v := .tuple #[.agg #[.string ⟨#[]⟩, .string ⟨#[]⟩, .string ⟨#[]⟩], .int .i64 5]) (by simp [results, Try.results94, go_sem]) rfl ⟨by rw [F.out], g_alloc g_refl _⟩

set_option maxHeartbeats 1000000 in
theorem parse_sign (s : ByteArray) (least most : Int) (w : World) (hs : s.size ≤ maxLen) (k : Nat) (hk : Lib.countByte s.data.toList 35 = k) (hc : Lib.countByte s.data.toList 58 = 1) (h1 : least ≤ (k : Int)) (h2 : (k : Int) ≤ most)
    (sp id rel : ByteArray) (hd : divF s = (sp, id, rel)) (h3 : 0 ≤ Lib.indexByte sp.data.toList 35) :
    Calls Try.prog 94 #[.string s, .int .i64 least, .int .i64 most] w (ParseRet s least most w) := by
  have F : Hid (parseF s least most = (⟨#[]⟩, ⟨#[]⟩, ⟨#[]⟩, 5)) := by
    unfold parseF; rw [hk, hc, hd, if_neg (by omega), if_pos h3]; rfl
  have H3 : Hid (decide (0 ≤ Lib.indexByte sp.data.toList 35) = true) := by simpa [Hid] using h3
  clear h3
  have HK := hid hk; clear hk
  have HC := hid hc; clear hc
  have HD := hid hd; clear hd
  go_enter Try.func94, Try.ntmps94
  go_wp2_with fail
  refine (cnt s 35 k _ HK.out).mono ?_
  rintro e w' ⟨rfl, rfl⟩
  go_wp2_with fail
  refine (cnt s 58 1 _ HC.out).mono ?_
  rintro e w' ⟨rfl, rfl⟩
  go_wp2_with fail
  refine (divide_v s sp id rel _ hs HD.out).mono ?_
  rintro e w1 ⟨rfl, hw⟩
  have hz : w.heap.size < w1.heap.size := by have := hw.size; simp at this; omega
  have own := own_cells hw w.heap.size (by simp)
  have c0 : w1.cell? ⟨w.heap.size, 0, none⟩ = some (.string ⟨#[]⟩) := (own 0).1.trans (by go_simp)
  have c1 : w1.cell? ⟨w.heap.size, 1, none⟩ = some (.string ⟨#[]⟩) := (own 1).1.trans (by go_simp)
  have c2 : w1.cell? ⟨w.heap.size, 2, none⟩ = some (.string ⟨#[]⟩) := (own 2).1.trans (by go_simp)
  have f0 : w1.frozen? ⟨w.heap.size, 0, none⟩ = false := (own 0).2.trans (by go_simp)
  have f1 : w1.frozen? ⟨w.heap.size, 1, none⟩ = false := (own 1).2.trans (by go_simp)
  have f2 : w1.frozen? ⟨w.heap.size, 2, none⟩ = false := (own 2).2.trans (by go_simp)
  clear own
  go_wp2_with fail
  refine (has sp 35 true _ H3.out).mono ?_
  rintro e w' ⟨rfl, rfl⟩
  go_wp2
  exact bodyPost_ret (v := .tuple #[.agg #[.string ⟨#[]⟩, .string ⟨#[]⟩, .string ⟨#[]⟩], .int .i64 5]) (by simp [results, Try.results94, go_sem, *]) rfl ⟨by rw [F.out], g_alloc (g_set (g_set (g_set (g_trans (g_alloc g_refl _) hw) (Nat.le_refl _) _) (Nat.le_refl _) _) (Nat.le_refl _) _) _⟩

set_option maxHeartbeats 1000000 in
theorem parse_objno (s : ByteArray) (least most : Int) (w : World) (hs : s.size ≤ maxLen) (k : Nat) (hk : Lib.countByte s.data.toList 35 = k) (hc : Lib.countByte s.data.toList 58 = 1) (h1 : least ≤ (k : Int)) (h2 : (k : Int) ≤ most)
    (sp id rel : ByteArray) (hd : divF s = (sp, id, rel)) (h3 : Lib.indexByte sp.data.toList 35 < 0) (h4 : (nb sp && nb id) = false) :
    Calls Try.prog 94 #[.string s, .int .i64 least, .int .i64 most] w (ParseRet s least most w) := by
  have F : Hid (parseF s least most = (⟨#[]⟩, ⟨#[]⟩, ⟨#[]⟩, 6)) := by
    unfold parseF; rw [hk, hc, hd, if_neg (by omega), if_neg (by show ¬ 0 ≤ Lib.indexByte sp.data.toList 35; omega), if_neg]
    · rfl
    · show ¬ (nb sp && nb id && _) = true; rw [h4]; simp
  have H3 : Hid (decide (0 ≤ Lib.indexByte sp.data.toList 35) = false) := by simpa [Hid] using h3
  clear h3
  have H4 := hid h4; clear h4
  have hsz := div_sizes s
  rw [hd] at hsz
  obtain ⟨z1, z2, z3⟩ := hsz
  have HK := hid hk; clear hk
  have HC := hid hc; clear hc
  have HD := hid hd; clear hd
  go_enter Try.func94, Try.ntmps94
  go_wp2_with fail
  refine (cnt s 35 k _ HK.out).mono ?_
  rintro e w' ⟨rfl, rfl⟩
  go_wp2_with fail
  refine (cnt s 58 1 _ HC.out).mono ?_
  rintro e w' ⟨rfl, rfl⟩
  go_wp2_with fail
  refine (divide_v s sp id rel _ hs HD.out).mono ?_
  rintro e w1 ⟨rfl, hw⟩
  have hz : w.heap.size < w1.heap.size := by have := hw.size; simp at this; omega
  have own := own_cells hw w.heap.size (by simp)
  have c0 : w1.cell? ⟨w.heap.size, 0, none⟩ = some (.string ⟨#[]⟩) := (own 0).1.trans (by go_simp)
  have c1 : w1.cell? ⟨w.heap.size, 1, none⟩ = some (.string ⟨#[]⟩) := (own 1).1.trans (by go_simp)
  have c2 : w1.cell? ⟨w.heap.size, 2, none⟩ = some (.string ⟨#[]⟩) := (own 2).1.trans (by go_simp)
  have f0 : w1.frozen? ⟨w.heap.size, 0, none⟩ = false := (own 0).2.trans (by go_simp)
  have f1 : w1.frozen? ⟨w.heap.size, 1, none⟩ = false := (own 1).2.trans (by go_simp)
  have f2 : w1.frozen? ⟨w.heap.size, 2, none⟩ = false := (own 2).2.trans (by go_simp)
  clear own
  go_wp2_with fail
  refine (has sp 35 false _ H3.out).mono ?_
  rintro e w' ⟨rfl, rfl⟩
  go_wp2_with fail
  refine (object_no sp id _ (Nat.le_trans z1 hs) (Nat.le_trans z2 hs) H4.out).mono ?_
  rintro e w2 ⟨rfl, hw2⟩
  have hz2 : w1.heap.size < w2.heap.size := by have := hw2.size; simp at this; omega
  have own := own_cells hw2 w.heap.size (by simp; omega)
  have d0 : w2.cell? ⟨w.heap.size, 0, none⟩ = some (.string ⟨#[]⟩) := (own 0).1.trans (by go_simp)
  have d1 : w2.cell? ⟨w.heap.size, 1, none⟩ = some (.string ⟨#[]⟩) := (own 1).1.trans (by go_simp)
  have d2 : w2.cell? ⟨w.heap.size, 2, none⟩ = some (.string ⟨#[]⟩) := (own 2).1.trans (by go_simp)
  have g0 : w2.frozen? ⟨w.heap.size, 0, none⟩ = false := (own 0).2.trans (by go_simp)
  have g1 : w2.frozen? ⟨w.heap.size, 1, none⟩ = false := (own 1).2.trans (by go_simp)
  have g2 : w2.frozen? ⟨w.heap.size, 2, none⟩ = false := (own 2).2.trans (by go_simp)
  clear own
  go_wp2
  exact bodyPost_ret (v := .tuple #[.agg #[.string ⟨#[]⟩, .string ⟨#[]⟩, .string ⟨#[]⟩], .int .i64 6]) (by simp [results, Try.results94, go_sem, *]) rfl ⟨by rw [F.out], g_set (g_set (g_set (g_trans (g_alloc (g_trans (g_alloc g_refl _) hw) _) hw2) (Nat.le_refl _) _) (Nat.le_refl _) _) (Nat.le_refl _) _⟩

set_option maxHeartbeats 1000000 in
theorem parse_bare (s : ByteArray) (least most : Int) (w : World) (hs : s.size ≤ maxLen) (k : Nat) (hk : Lib.countByte s.data.toList 35 = k) (hc : Lib.countByte s.data.toList 58 = 1) (h1 : least ≤ (k : Int)) (h2 : (k : Int) ≤ most)
    (sp id rel : ByteArray) (hd : divF s = (sp, id, rel)) (h3 : Lib.indexByte sp.data.toList 35 < 0) (h4 : (nb sp && nb id) = true) (h5 : k = 0) :
    Calls Try.prog 94 #[.string s, .int .i64 least, .int .i64 most] w (ParseRet s least most w) := by
  have F : Hid (parseF s least most = (sp, id, rel, 0)) := by
    unfold parseF; rw [hk, hc, hd, if_neg (by omega), if_neg (by show ¬ 0 ≤ Lib.indexByte sp.data.toList 35; omega), if_pos]
    · rfl
    · show (nb sp && nb id && (decide (k = 0) || nb rel)) = true; rw [h4, h5]; rfl
  have H3 : Hid (decide (0 ≤ Lib.indexByte sp.data.toList 35) = false) := by simpa [Hid] using h3
  clear h3
  have H4 := hid h4; clear h4
  subst h5
  have hsz := div_sizes s
  rw [hd] at hsz
  obtain ⟨z1, z2, z3⟩ := hsz
  have HK := hid hk; clear hk
  have HC := hid hc; clear hc
  have HD := hid hd; clear hd
  go_enter Try.func94, Try.ntmps94
  go_wp2_with fail
  refine (cnt s 35 0 _ HK.out).mono ?_
  rintro e w' ⟨rfl, rfl⟩
  go_wp2_with fail
  refine (cnt s 58 1 _ HC.out).mono ?_
  rintro e w' ⟨rfl, rfl⟩
  go_wp2_with fail
  refine (divide_v s sp id rel _ hs HD.out).mono ?_
  rintro e w1 ⟨rfl, hw⟩
  have hz : w.heap.size < w1.heap.size := by have := hw.size; simp at this; omega
  have own := own_cells hw w.heap.size (by simp)
  have c0 : w1.cell? ⟨w.heap.size, 0, none⟩ = some (.string ⟨#[]⟩) := (own 0).1.trans (by go_simp)
  have c1 : w1.cell? ⟨w.heap.size, 1, none⟩ = some (.string ⟨#[]⟩) := (own 1).1.trans (by go_simp)
  have c2 : w1.cell? ⟨w.heap.size, 2, none⟩ = some (.string ⟨#[]⟩) := (own 2).1.trans (by go_simp)
  have f0 : w1.frozen? ⟨w.heap.size, 0, none⟩ = false := (own 0).2.trans (by go_simp)
  have f1 : w1.frozen? ⟨w.heap.size, 1, none⟩ = false := (own 1).2.trans (by go_simp)
  have f2 : w1.frozen? ⟨w.heap.size, 2, none⟩ = false := (own 2).2.trans (by go_simp)
  clear own
  go_wp2_with fail
  refine (has sp 35 false _ H3.out).mono ?_
  rintro e w' ⟨rfl, rfl⟩
  go_wp2_with fail
  refine (object_yes sp id _ (Nat.le_trans z1 hs) (Nat.le_trans z2 hs) H4.out).mono ?_
  rintro e w2 ⟨rfl, hw2⟩
  have hz2 : w1.heap.size < w2.heap.size := by have := hw2.size; simp at this; omega
  have own := own_cells hw2 w.heap.size (by simp; omega)
  have d0 : w2.cell? ⟨w.heap.size, 0, none⟩ = some (.string ⟨#[]⟩) := (own 0).1.trans (by go_simp)
  have d1 : w2.cell? ⟨w.heap.size, 1, none⟩ = some (.string ⟨#[]⟩) := (own 1).1.trans (by go_simp)
  have d2 : w2.cell? ⟨w.heap.size, 2, none⟩ = some (.string ⟨#[]⟩) := (own 2).1.trans (by go_simp)
  have g0 : w2.frozen? ⟨w.heap.size, 0, none⟩ = false := (own 0).2.trans (by go_simp)
  have g1 : w2.frozen? ⟨w.heap.size, 1, none⟩ = false := (own 1).2.trans (by go_simp)
  have g2 : w2.frozen? ⟨w.heap.size, 2, none⟩ = false := (own 2).2.trans (by go_simp)
  clear own
  have own := own_cells hw2 w1.heap.size (by simp)
  have x0 : w2.cell? ⟨w1.heap.size, 0, none⟩ = some (.string sp) := (own 0).1.trans (by go_simp)
  have x1 : w2.cell? ⟨w1.heap.size, 1, none⟩ = some (.string id) := (own 1).1.trans (by go_simp)
  have x2 : w2.cell? ⟨w1.heap.size, 2, none⟩ = some (.string rel) := (own 2).1.trans (by go_simp)
  clear own
  go_wp2
  exact bodyPost_ret (v := .tuple #[.agg #[.string sp, .string id, .string rel], .int .i64 0]) (by simp [results, Try.results94, go_sem, *]) rfl ⟨by rw [F.out], g_set (g_set (g_set (g_trans (g_alloc (g_trans (g_alloc g_refl _) hw) _) hw2) (Nat.le_refl _) _) (Nat.le_refl _) _) (Nat.le_refl _) _⟩

set_option maxHeartbeats 1000000 in
theorem parse_good (s : ByteArray) (least most : Int) (w : World) (hs : s.size ≤ maxLen) (k : Nat) (hk : Lib.countByte s.data.toList 35 = k) (hc : Lib.countByte s.data.toList 58 = 1) (h1 : least ≤ (k : Int)) (h2 : (k : Int) ≤ most)
    (sp id rel : ByteArray) (hd : divF s = (sp, id, rel)) (h3 : Lib.indexByte sp.data.toList 35 < 0) (h4 : (nb sp && nb id) = true) (h5 : 0 < k) (h6 : nb rel = true) :
    Calls Try.prog 94 #[.string s, .int .i64 least, .int .i64 most] w (ParseRet s least most w) := by
  have F : Hid (parseF s least most = (sp, id, rel, 0)) := by
    unfold parseF; rw [hk, hc, hd, if_neg (by omega), if_neg (by show ¬ 0 ≤ Lib.indexByte sp.data.toList 35; omega), if_pos]
    · rfl
    · show (nb sp && nb id && (decide (k = 0) || nb rel)) = true; rw [h4, h6]; simp
  have H3 : Hid (decide (0 ≤ Lib.indexByte sp.data.toList 35) = false) := by simpa [Hid] using h3
  clear h3
  have H4 := hid h4; clear h4
  have H6 := hid h6; clear h6
  have hsz := div_sizes s
  rw [hd] at hsz
  obtain ⟨z1, z2, z3⟩ := hsz
  have HK := hid hk; clear hk
  have HC := hid hc; clear hc
  have HD := hid hd; clear hd
  go_enter Try.func94, Try.ntmps94
  go_wp2_with fail
  refine (cnt s 35 k _ HK.out).mono ?_
  rintro e w' ⟨rfl, rfl⟩
  go_wp2_with fail
  refine (cnt s 58 1 _ HC.out).mono ?_
  rintro e w' ⟨rfl, rfl⟩
  go_wp2_with fail
  refine (divide_v s sp id rel _ hs HD.out).mono ?_
  rintro e w1 ⟨rfl, hw⟩
  have hz : w.heap.size < w1.heap.size := by have := hw.size; simp at this; omega
  have own := own_cells hw w.heap.size (by simp)
  have c0 : w1.cell? ⟨w.heap.size, 0, none⟩ = some (.string ⟨#[]⟩) := (own 0).1.trans (by go_simp)
  have c1 : w1.cell? ⟨w.heap.size, 1, none⟩ = some (.string ⟨#[]⟩) := (own 1).1.trans (by go_simp)
  have c2 : w1.cell? ⟨w.heap.size, 2, none⟩ = some (.string ⟨#[]⟩) := (own 2).1.trans (by go_simp)
  have f0 : w1.frozen? ⟨w.heap.size, 0, none⟩ = false := (own 0).2.trans (by go_simp)
  have f1 : w1.frozen? ⟨w.heap.size, 1, none⟩ = false := (own 1).2.trans (by go_simp)
  have f2 : w1.frozen? ⟨w.heap.size, 2, none⟩ = false := (own 2).2.trans (by go_simp)
  clear own
  go_wp2_with fail
  refine (has sp 35 false _ H3.out).mono ?_
  rintro e w' ⟨rfl, rfl⟩
  go_wp2_with fail
  refine (object_yes sp id _ (Nat.le_trans z1 hs) (Nat.le_trans z2 hs) H4.out).mono ?_
  rintro e w2 ⟨rfl, hw2⟩
  have hz2 : w1.heap.size < w2.heap.size := by have := hw2.size; simp at this; omega
  have own := own_cells hw2 w.heap.size (by simp; omega)
  have d0 : w2.cell? ⟨w.heap.size, 0, none⟩ = some (.string ⟨#[]⟩) := (own 0).1.trans (by go_simp)
  have d1 : w2.cell? ⟨w.heap.size, 1, none⟩ = some (.string ⟨#[]⟩) := (own 1).1.trans (by go_simp)
  have d2 : w2.cell? ⟨w.heap.size, 2, none⟩ = some (.string ⟨#[]⟩) := (own 2).1.trans (by go_simp)
  have g0 : w2.frozen? ⟨w.heap.size, 0, none⟩ = false := (own 0).2.trans (by go_simp)
  have g1 : w2.frozen? ⟨w.heap.size, 1, none⟩ = false := (own 1).2.trans (by go_simp)
  have g2 : w2.frozen? ⟨w.heap.size, 2, none⟩ = false := (own 2).2.trans (by go_simp)
  clear own
  have own := own_cells hw2 w1.heap.size (by simp)
  have x0 : w2.cell? ⟨w1.heap.size, 0, none⟩ = some (.string sp) := (own 0).1.trans (by go_simp)
  have x1 : w2.cell? ⟨w1.heap.size, 1, none⟩ = some (.string id) := (own 1).1.trans (by go_simp)
  have x2 : w2.cell? ⟨w1.heap.size, 2, none⟩ = some (.string rel) := (own 2).1.trans (by go_simp)
  clear own
  go_wp2_with fail
  refine (check_yes rel _ (Nat.le_trans z3 hs) H6.out).mono ?_
  rintro e w' ⟨rfl, rfl⟩
  go_wp2
  exact bodyPost_ret (v := .tuple #[.agg #[.string sp, .string id, .string rel], .int .i64 0]) (by simp [results, Try.results94, go_sem, *]) rfl ⟨by rw [F.out], g_set (g_set (g_set (g_trans (g_alloc (g_trans (g_alloc g_refl _) hw) _) hw2) (Nat.le_refl _) _) (Nat.le_refl _) _) (Nat.le_refl _) _⟩

set_option maxHeartbeats 1000000 in
theorem parse_relno (s : ByteArray) (least most : Int) (w : World) (hs : s.size ≤ maxLen) (k : Nat) (hk : Lib.countByte s.data.toList 35 = k) (hc : Lib.countByte s.data.toList 58 = 1) (h1 : least ≤ (k : Int)) (h2 : (k : Int) ≤ most)
    (sp id rel : ByteArray) (hd : divF s = (sp, id, rel)) (h3 : Lib.indexByte sp.data.toList 35 < 0) (h4 : (nb sp && nb id) = true) (h5 : 0 < k) (h6 : nb rel = false) :
    Calls Try.prog 94 #[.string s, .int .i64 least, .int .i64 most] w (ParseRet s least most w) := by
  have F : Hid (parseF s least most = (⟨#[]⟩, ⟨#[]⟩, ⟨#[]⟩, 6)) := by
    unfold parseF; rw [hk, hc, hd, if_neg (by omega), if_neg (by show ¬ 0 ≤ Lib.indexByte sp.data.toList 35; omega), if_neg]
    · rfl
    · show ¬ (nb sp && nb id && (decide (k = 0) || nb rel)) = true; rw [h4, h6]; simp; omega
  have H3 : Hid (decide (0 ≤ Lib.indexByte sp.data.toList 35) = false) := by simpa [Hid] using h3
  clear h3
  have H4 := hid h4; clear h4
  have H6 := hid h6; clear h6
  have hsz := div_sizes s
  rw [hd] at hsz
  obtain ⟨z1, z2, z3⟩ := hsz
  have HK := hid hk; clear hk
  have HC := hid hc; clear hc
  have HD := hid hd; clear hd
  go_enter Try.func94, Try.ntmps94
  go_wp2_with fail
  refine (cnt s 35 k _ HK.out).mono ?_
  rintro e w' ⟨rfl, rfl⟩
  go_wp2_with fail
  refine (cnt s 58 1 _ HC.out).mono ?_
  rintro e w' ⟨rfl, rfl⟩
  go_wp2_with fail
  refine (divide_v s sp id rel _ hs HD.out).mono ?_
  rintro e w1 ⟨rfl, hw⟩
  have hz : w.heap.size < w1.heap.size := by have := hw.size; simp at this; omega
  have own := own_cells hw w.heap.size (by simp)
  have c0 : w1.cell? ⟨w.heap.size, 0, none⟩ = some (.string ⟨#[]⟩) := (own 0).1.trans (by go_simp)
  have c1 : w1.cell? ⟨w.heap.size, 1, none⟩ = some (.string ⟨#[]⟩) := (own 1).1.trans (by go_simp)
  have c2 : w1.cell? ⟨w.heap.size, 2, none⟩ = some (.string ⟨#[]⟩) := (own 2).1.trans (by go_simp)
  have f0 : w1.frozen? ⟨w.heap.size, 0, none⟩ = false := (own 0).2.trans (by go_simp)
  have f1 : w1.frozen? ⟨w.heap.size, 1, none⟩ = false := (own 1).2.trans (by go_simp)
  have f2 : w1.frozen? ⟨w.heap.size, 2, none⟩ = false := (own 2).2.trans (by go_simp)
  clear own
  go_wp2_with fail
  refine (has sp 35 false _ H3.out).mono ?_
  rintro e w' ⟨rfl, rfl⟩
  go_wp2_with fail
  refine (object_yes sp id _ (Nat.le_trans z1 hs) (Nat.le_trans z2 hs) H4.out).mono ?_
  rintro e w2 ⟨rfl, hw2⟩
  have hz2 : w1.heap.size < w2.heap.size := by have := hw2.size; simp at this; omega
  have own := own_cells hw2 w.heap.size (by simp; omega)
  have d0 : w2.cell? ⟨w.heap.size, 0, none⟩ = some (.string ⟨#[]⟩) := (own 0).1.trans (by go_simp)
  have d1 : w2.cell? ⟨w.heap.size, 1, none⟩ = some (.string ⟨#[]⟩) := (own 1).1.trans (by go_simp)
  have d2 : w2.cell? ⟨w.heap.size, 2, none⟩ = some (.string ⟨#[]⟩) := (own 2).1.trans (by go_simp)
  have g0 : w2.frozen? ⟨w.heap.size, 0, none⟩ = false := (own 0).2.trans (by go_simp)
  have g1 : w2.frozen? ⟨w.heap.size, 1, none⟩ = false := (own 1).2.trans (by go_simp)
  have g2 : w2.frozen? ⟨w.heap.size, 2, none⟩ = false := (own 2).2.trans (by go_simp)
  clear own
  have own := own_cells hw2 w1.heap.size (by simp)
  have x0 : w2.cell? ⟨w1.heap.size, 0, none⟩ = some (.string sp) := (own 0).1.trans (by go_simp)
  have x1 : w2.cell? ⟨w1.heap.size, 1, none⟩ = some (.string id) := (own 1).1.trans (by go_simp)
  have x2 : w2.cell? ⟨w1.heap.size, 2, none⟩ = some (.string rel) := (own 2).1.trans (by go_simp)
  clear own
  go_wp2_with fail
  refine (check_no rel _ (Nat.le_trans z3 hs) H6.out).mono ?_
  rintro e w' ⟨rfl, rfl⟩
  go_wp2
  exact bodyPost_ret (v := .tuple #[.agg #[.string ⟨#[]⟩, .string ⟨#[]⟩, .string ⟨#[]⟩], .int .i64 6]) (by simp [results, Try.results94, go_sem, *]) rfl ⟨by rw [F.out], g_set (g_set (g_set (g_trans (g_alloc (g_trans (g_alloc g_refl _) hw) _) hw2) (Nat.le_refl _) _) (Nat.le_refl _) _) (Nat.le_refl _) _⟩

theorem parse_any (s : ByteArray) (least most : Int) (w : World) (hs : s.size ≤ maxLen) :
    Calls Try.prog 94 #[.string s, .int .i64 least, .int .i64 most] w (ParseRet s least most w) := by
  by_cases h : ¬ Lib.countByte s.data.toList 58 = 1 ∨ (Lib.countByte s.data.toList 35 : Int) < least ∨ most < (Lib.countByte s.data.toList 35 : Int)
  · exact parse_form s least most w _ _ rfl rfl h
  · have hc : Lib.countByte s.data.toList 58 = 1 := by omega
    have h1 : least ≤ (Lib.countByte s.data.toList 35 : Int) := by omega
    have h2 : (Lib.countByte s.data.toList 35 : Int) ≤ most := by omega
    by_cases h3 : 0 ≤ Lib.indexByte (divF s).1.data.toList 35
    · exact parse_sign s least most w hs _ rfl hc h1 h2 _ _ _ rfl h3
    · cases h4 : (nb (divF s).1 && nb (divF s).2.1)
      · exact parse_objno s least most w hs _ rfl hc h1 h2 _ _ _ rfl (Int.not_le.1 h3) h4
      · by_cases h5 : Lib.countByte s.data.toList 35 = 0
        · exact parse_bare s least most w hs _ rfl hc h1 h2 _ _ _ rfl (Int.not_le.1 h3) h4 h5
        · cases h6 : nb (divF s).2.2
          · exact parse_relno s least most w hs _ rfl hc h1 h2 _ _ _ rfl (Int.not_le.1 h3) h4 (by omega) h6
          · exact parse_good s least most w hs _ rfl hc h1 h2 _ _ _ rfl (Int.not_le.1 h3) h4 (by omega) h6

/-- what ParseGoal leaves -/
def GoalRet (s : ByteArray) (w : World) (e : Ending) (w' : World) : Prop :=
  e = .returned (.tuple #[.agg #[.string (parseF s 1 1).1, .string (parseF s 1 1).2.1, .string (parseF s 1 1).2.2.1], .int .i64 (parseF s 1 1).2.2.2]) ∧ Below w.heap.size w w'
/-- what ParseSubject leaves -/
def SubjectRet (s : ByteArray) (w : World) (e : Ending) (w' : World) : Prop :=
  e = .returned (.tuple #[.agg #[.string (parseF s 0 1).1, .string (parseF s 0 1).2.1, .string (parseF s 0 1).2.2.1], .int .i64 (parseF s 0 1).2.2.2]) ∧ Below w.heap.size w w'
/-- what ParseObject leaves -/
def ObjectRet (s : ByteArray) (w : World) (e : Ending) (w' : World) : Prop :=
  e = .returned (.tuple #[.agg #[.string (parseF s 0 0).1, .string (parseF s 0 0).2.1], .int .i64 (parseF s 0 0).2.2.2]) ∧ Below w.heap.size w w'


set_option maxHeartbeats 1000000 in
theorem parseSubject_any (s : ByteArray) (w : World) (hs : s.size ≤ maxLen) :
    Calls Try.prog 71 #[.string s] w (SubjectRet s w) := by
  go_enter Try.func71, Try.ntmps71
  go_wp2_with fail
  refine (parse_any s 0 1 _ hs).mono ?_
  rintro e w1 ⟨rfl, hw⟩
  have hz : w.heap.size < w1.heap.size := by have := hw.size; simp at this; omega
  have own := own_cells hw w.heap.size (by simp)
  have c0 : w1.cell? ⟨w.heap.size, 0, none⟩ = some (.string ⟨#[]⟩) := (own 0).1.trans (by go_simp)
  have c1 : w1.cell? ⟨w.heap.size, 1, none⟩ = some (.string ⟨#[]⟩) := (own 1).1.trans (by go_simp)
  have c2 : w1.cell? ⟨w.heap.size, 2, none⟩ = some (.string ⟨#[]⟩) := (own 2).1.trans (by go_simp)
  have f0 : w1.frozen? ⟨w.heap.size, 0, none⟩ = false := (own 0).2.trans (by go_simp)
  have f1 : w1.frozen? ⟨w.heap.size, 1, none⟩ = false := (own 1).2.trans (by go_simp)
  have f2 : w1.frozen? ⟨w.heap.size, 2, none⟩ = false := (own 2).2.trans (by go_simp)
  clear own
  go_wp2
  exact bodyPost_ret (v := .tuple #[.agg #[.string (parseF s 0 1).1, .string (parseF s 0 1).2.1, .string (parseF s 0 1).2.2.1], .int .i64 (parseF s 0 1).2.2.2]) (by simp [results, Try.results71, go_sem, *]) rfl
    ⟨rfl, g_alloc (g_set (g_set (g_set (g_trans (g_alloc g_refl _) hw) (Nat.le_refl _) _) (Nat.le_refl _) _) (Nat.le_refl _) _) _⟩


end Go.Proofs.Ytgfgfggoofjeeaa
