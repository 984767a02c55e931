/-
  THE CONTRACTS of filters.parseGoal and Parse.
  THE CONTRACT of filters.Parse.
-/
import Derived.Test.YtgfgfggoofjeeaaFTak
import Derived.Test.YtgfgfggoofjeeaaFOr
import Derived.Test.YtgfgfggoofjeeaaFOZ
import Derived.Test.YtgfgfggoofjeeaaTFact
namespace Go.Proofs.Ytgfgfggoofjeeaa
open Go.RowKit Go.Sort

/-- a field of a text: "*" is none -/
def star (s : ByteArray) : ByteArray := if s = ⟨#[42]⟩ then ⟨#[]⟩ else s
def okS (s : ByteArray) : Bool := decide (s = ⟨#[42]⟩) || nb s
/-- the fields of a goal's text, and the number of the error -/
def gpar (g : ByteArray) : ByteArray × ByteArray × ByteArray × Int :=
  if ¬ cn g 58 = 1 ∨ ¬ cn g 35 = 1 ∨ ix g 35 < ix g 58 then (⟨#[]⟩, ⟨#[]⟩, ⟨#[]⟩, 5)
  else if okS (g.extract 0 (ix g 58)) && okS (g.extract (ix g 58 + 1) (ix g 35)) && okS (g.extract (ix g 35 + 1) g.size) then (star (g.extract 0 (ix g 58)), star (g.extract (ix g 58 + 1) (ix g 35)), star (g.extract (ix g 35 + 1) g.size), 0)
  else (⟨#[]⟩, ⟨#[]⟩, ⟨#[]⟩, 6)
theorem gpar5 {g : ByteArray} (h : ¬ cn g 58 = 1 ∨ ¬ cn g 35 = 1 ∨ ix g 35 < ix g 58) : gpar g = (⟨#[]⟩, ⟨#[]⟩, ⟨#[]⟩, 5) := by unfold gpar; rw [if_pos h]
theorem gpar6 {g x y z : ByteArray} (h : ¬ (¬ cn g 58 = 1 ∨ ¬ cn g 35 = 1 ∨ ix g 35 < ix g 58)) (hx : g.extract 0 (ix g 58) = x) (hy : g.extract (ix g 58 + 1) (ix g 35) = y) (hz : g.extract (ix g 35 + 1) g.size = z) (k : (okS x && okS y && okS z) = false) : gpar g = (⟨#[]⟩, ⟨#[]⟩, ⟨#[]⟩, 6) := by
  unfold gpar; rw [if_neg h, hx, hy, hz, if_neg (by rw [k]; decide)]
theorem gpar0 {g x y z : ByteArray} (h : ¬ (¬ cn g 58 = 1 ∨ ¬ cn g 35 = 1 ∨ ix g 35 < ix g 58)) (hx : g.extract 0 (ix g 58) = x) (hy : g.extract (ix g 58 + 1) (ix g 35) = y) (hz : g.extract (ix g 35 + 1) g.size = z) (k : (okS x && okS y && okS z) = true) : gpar g = (star x, star y, star z, 0) := by
  unfold gpar; rw [if_neg h, hx, hy, hz, if_pos k]
/-- where the space has the sign of the relation -/
theorem sign_in {s : ByteArray} (h : cn s 58 = 1) (k : cn s 35 = 1) : decide (0 ≤ Lib.indexByte (divF s).1.data.toList 35) = decide (ix s 35 < ix s 58) := by
  by_cases h3 : ix s 35 < ix s 58
  · have e3 : (divF s).1 = s.extract 0 (ix s 58) := by unfold divF; rw [cutB_ix s 58, if_neg (by omega)]
    have e4 : 0 < cn (s.extract 0 (ix s 58)) 35 := by
      have e5 := at_ix s 35 (by omega)
      unfold cn Lib.countByte
      rw [ext_take]
      refine List.count_pos_iff.2 (List.mem_of_getElem? (i := ix s 35) ?_)
      rw [List.getElem?_take_of_lt h3]; exact e5
    rw [e3, index_cn, if_neg (by omega), decide_eq_true h3, decide_eq_true (by omega)]
  · obtain ⟨s1, s2, s3⟩ := second s (by omega) h3
    have e3 : (divF s).1 = s.extract 0 (ix s 58) := by rw [div_ix s (by omega) h3]
    rw [e3, index_cn, if_pos s1, decide_eq_false h3]; rfl
theorem star_y : star ⟨#[42]⟩ = ⟨#[]⟩ := by unfold star; rw [if_pos rfl]
theorem star_n {s : ByteArray} (h : ¬ s = ⟨#[42]⟩) : star s = s := by unfold star; rw [if_neg h]
theorem okS_y : okS ⟨#[42]⟩ = true := by unfold okS; simp
theorem okS_n {s : ByteArray} (h : nb s = true) : okS s = true := by unfold okS; rw [h, Bool.or_true]
theorem okS_no {s : ByteArray} (h : ¬ s = ⟨#[42]⟩) (k : nb s = false) : okS s = false := by unfold okS; rw [k, decide_eq_false h]; rfl
theorem st_cases (s : ByteArray) : s = ⟨#[42]⟩ ∨ ((s.toList == [42]) = false ∧ ¬ s = ⟨#[42]⟩) := by
  by_cases h : s = ⟨#[42]⟩
  · exact .inl h
  · refine .inr ⟨?_, h⟩
    rw [← show (⟨#[42]⟩ : ByteArray).toList = [42] by rw [ByteArray.toList_eq], toList_beq, decide_eq_false h]

def PgRet (s : ByteArray) (w : World) (e : Ending) (w' : World) : Prop :=
  e = .returned (.tuple #[.agg #[.string (gpar s).1, .string (gpar s).2.1, .string (gpar s).2.2.1, .string ⟨#[]⟩, .string ⟨#[]⟩, .string ⟨#[]⟩, .bool false], .int .i64 (gpar s).2.2.2]) ∧ Below w.heap.size w w'
attribute [local go_sem] drewN_setCell drewN_alloc

set_option maxRecDepth 20000 in
set_option maxHeartbeats 2000000 in
theorem pg_a (s x r0 y z : ByteArray) (b1 b2 : Bool) (w : World) (hs : s.size ≤ maxLen) (h1 : cutB s 58 = (x, r0, b1)) (h2 : cutB r0 35 = (y, z, b2)) (n : Nat) (hn : cn s 58 = n) (h0 : ¬ n = 1) :
    Calls Try.prog 70 #[.string s] w (PgRet s w) := by
  have HK := hid (gpar5 (.inl (by rw [hn]; exact h0)))
  have HN := hid hn; clear hn
  have h0' : ¬ (n : Int) = 1 := by omega
  clear h0
  have hr : r0.size ≤ maxLen := by have := cutB_size s 58; rw [h1] at this; exact Nat.le_trans this hs
  have H1 := hid h1; clear h1
  have H2 := hid h2; clear h2
  go_enter Try.func70, Try.ntmps70
  go_wp2_with fail
  refine (cut_v s x r0 58 b1 _ hs H1.out).mono ?_
  rintro e w' ⟨rfl, d1, rfl⟩
  go_wp2_with fail
  refine (cut_v r0 y z 35 b2 _ hr H2.out).mono ?_
  rintro e w' ⟨rfl, d2, rfl⟩
  go_wp2_with fail
  refine (cnt s 58 n _ HN.out).mono ?_
  rintro e w' ⟨rfl, rfl⟩
  go_wp2
  (try simp only [Exit.inBlock, Exit.then])
  refine bodyPost_ret (v := .tuple #[.agg #[.string ⟨#[]⟩, .string ⟨#[]⟩, .string ⟨#[]⟩, .string ⟨#[]⟩, .string ⟨#[]⟩, .string ⟨#[]⟩, .bool false], .int .i64 5]) ?_ rfl ?_
  · simp [results, Try.results70, go_sem, *]
  · refine ⟨by rw [HK.out], ?_⟩
    repeat (first | (with_reducible refine g_alloc ?_ _) | (with_reducible refine g_drewN ?_ _) | (with_reducible refine g_set ?_ (Nat.le_refl _) _))
    with_reducible exact g_refl

set_option maxRecDepth 20000 in
set_option maxHeartbeats 2000000 in
theorem pg_b (s x r0 y z : ByteArray) (b1 b2 : Bool) (w : World) (hs : s.size ≤ maxLen) (h1 : cutB s 58 = (x, r0, b1)) (h2 : cutB r0 35 = (y, z, b2)) (n : Nat) (h58 : cn s 58 = 1) (hn : cn s 35 = n) (h0 : ¬ n = 1) :
    Calls Try.prog 70 #[.string s] w (PgRet s w) := by
  have HK := hid (gpar5 (.inr (.inl (by rw [hn]; exact h0))))
  have HM := hid h58; clear h58
  have HN := hid hn; clear hn
  have h0' : ¬ (n : Int) = 1 := by omega
  clear h0
  have hr : r0.size ≤ maxLen := by have := cutB_size s 58; rw [h1] at this; exact Nat.le_trans this hs
  have H1 := hid h1; clear h1
  have H2 := hid h2; clear h2
  go_enter Try.func70, Try.ntmps70
  go_wp2_with fail
  refine (cut_v s x r0 58 b1 _ hs H1.out).mono ?_
  rintro e w' ⟨rfl, d1, rfl⟩
  go_wp2_with fail
  refine (cut_v r0 y z 35 b2 _ hr H2.out).mono ?_
  rintro e w' ⟨rfl, d2, rfl⟩
  go_wp2_with fail
  refine (cnt s 58 1 _ HM.out).mono ?_
  rintro e w' ⟨rfl, rfl⟩
  go_wp2_with fail
  refine (cnt s 35 n _ HN.out).mono ?_
  rintro e w' ⟨rfl, rfl⟩
  go_wp2
  (try simp only [Exit.inBlock, Exit.then])
  refine bodyPost_ret (v := .tuple #[.agg #[.string ⟨#[]⟩, .string ⟨#[]⟩, .string ⟨#[]⟩, .string ⟨#[]⟩, .string ⟨#[]⟩, .string ⟨#[]⟩, .bool false], .int .i64 5]) ?_ rfl ?_
  · simp [results, Try.results70, go_sem, *]
  · refine ⟨by rw [HK.out], ?_⟩
    repeat (first | (with_reducible refine g_alloc ?_ _) | (with_reducible refine g_drewN ?_ _) | (with_reducible refine g_set ?_ (Nat.le_refl _) _))
    with_reducible exact g_refl

set_option maxRecDepth 20000 in
set_option maxHeartbeats 2000000 in
theorem pg_c (s x r0 y z : ByteArray) (b1 b2 : Bool) (w : World) (hs : s.size ≤ maxLen) (h1 : cutB s 58 = (x, r0, b1)) (h2 : cutB r0 35 = (y, z, b2)) (h58 : cn s 58 = 1) (hn : cn s 35 = 1) (h0 : ix s 35 < ix s 58) :
    Calls Try.prog 70 #[.string s] w (PgRet s w) := by
  have HK := hid (gpar5 (.inr (.inr h0)))
  have hx : (divF s).1 = x := by unfold divF; rw [h1]
  have HX := hid (sign_in h58 hn)
  rw [hx, decide_eq_true h0] at HX
  have HM := hid h58; clear h58
  have HN := hid hn; clear hn
  clear h0 hx
  have hr : r0.size ≤ maxLen := by have := cutB_size s 58; rw [h1] at this; exact Nat.le_trans this hs
  have H1 := hid h1; clear h1
  have H2 := hid h2; clear h2
  go_enter Try.func70, Try.ntmps70
  go_wp2_with fail
  refine (cut_v s x r0 58 b1 _ hs H1.out).mono ?_
  rintro e w' ⟨rfl, d1, rfl⟩
  go_wp2_with fail
  refine (cut_v r0 y z 35 b2 _ hr H2.out).mono ?_
  rintro e w' ⟨rfl, d2, rfl⟩
  go_wp2_with fail
  refine (cnt s 58 1 _ HM.out).mono ?_
  rintro e w' ⟨rfl, rfl⟩
  go_wp2_with fail
  refine (cnt s 35 1 _ HN.out).mono ?_
  rintro e w' ⟨rfl, rfl⟩
  go_wp2_with fail
  refine (has x 35 true _ HX.out).mono ?_
  rintro e w' ⟨rfl, rfl⟩
  go_wp2
  (try simp only [Exit.inBlock, Exit.then])
  refine bodyPost_ret (v := .tuple #[.agg #[.string ⟨#[]⟩, .string ⟨#[]⟩, .string ⟨#[]⟩, .string ⟨#[]⟩, .string ⟨#[]⟩, .string ⟨#[]⟩, .bool false], .int .i64 5]) ?_ rfl ?_
  · simp [results, Try.results70, go_sem, *]
  · refine ⟨by rw [HK.out], ?_⟩
    repeat (first | (with_reducible refine g_alloc ?_ _) | (with_reducible refine g_drewN ?_ _) | (with_reducible refine g_set ?_ (Nat.le_refl _) _))
    with_reducible exact g_refl

/-- what the loop over the fields holds -/
def GL (x y z : ByteArray) (p : Nat) (w : World) (k : Nat) (wr : World) : Prop :=
  OZ wr w.heap.size ∧ (∃ z0 z1 z2, P3 wr p z0 z1 z2 ∧ (z0 = if 0 < k then star x else x) ∧ (z1 = if 1 < k then star y else y) ∧ (z2 = if 2 < k then star z else z) ∧ (0 < k → okS x = true) ∧ (1 < k → okS y = true) ∧ (2 < k → okS z = true)) ∧ Below w.heap.size w wr
theorem GL.z {x y z : ByteArray} {p : Nat} {w wr : World} (h1 : OZ wr w.heap.size) (h2 : P3 wr p x y z) (h3 : Below w.heap.size w wr) : GL x y z p w 0 wr :=
  ⟨h1, ⟨_, _, _, h2, rfl, rfl, rfl, fun h => absurd h (by omega), fun h => absurd h (by omega), fun h => absurd h (by omega)⟩, h3⟩
theorem GL.n0 {x y z : ByteArray} {p : Nat} {w wr : World} (h : GL x y z p w 0 wr) (hn : star x = x) (hc : okS x = true) : GL x y z p w (0+1) wr := by
  obtain ⟨h1, ⟨z0, z1, z2, hP, e0, e1, e2, g0, g1, g2⟩, hB⟩ := h
  refine ⟨h1, ⟨z0, z1, z2, hP, ?_, ?_, ?_, fun _ => hc, fun h => absurd h (by omega), fun h => absurd h (by omega)⟩, hB⟩
  · rw [e0]; simp [hn]
  · rw [e1]; simp
  · rw [e2]; simp
theorem GL.s0 {x y z : ByteArray} {p : Nat} {w wr : World} (h : GL x y z p w 0 wr) (hp : w.heap.size < p) (hn : star x = ⟨#[]⟩) (hc : okS x = true) : GL x y z p w (0+1) (wr.setCell ⟨p, 0, none⟩ (.string ⟨#[]⟩)) := by
  obtain ⟨h1, ⟨z0, z1, z2, hP, e0, e1, e2, g0, g1, g2⟩, hB⟩ := h
  refine ⟨h1.set (by omega), ⟨_, _, _, hP.s0, ?_, ?_, ?_, fun _ => hc, fun h => absurd h (by omega), fun h => absurd h (by omega)⟩, g_set hB (show w.heap.size ≤ p by omega) _⟩
  · simp [hn]
  · rw [e1]; simp
  · rw [e2]; simp
theorem GL.n1 {x y z : ByteArray} {p : Nat} {w wr : World} (h : GL x y z p w 1 wr) (hn : star y = y) (hc : okS y = true) : GL x y z p w (1+1) wr := by
  obtain ⟨h1, ⟨z0, z1, z2, hP, e0, e1, e2, g0, g1, g2⟩, hB⟩ := h
  refine ⟨h1, ⟨z0, z1, z2, hP, ?_, ?_, ?_, fun _ => g0 (by omega), fun _ => hc, fun h => absurd h (by omega)⟩, hB⟩
  · rw [e0]; simp
  · rw [e1]; simp [hn]
  · rw [e2]; simp
theorem GL.s1 {x y z : ByteArray} {p : Nat} {w wr : World} (h : GL x y z p w 1 wr) (hp : w.heap.size < p) (hn : star y = ⟨#[]⟩) (hc : okS y = true) : GL x y z p w (1+1) (wr.setCell ⟨p, 1, none⟩ (.string ⟨#[]⟩)) := by
  obtain ⟨h1, ⟨z0, z1, z2, hP, e0, e1, e2, g0, g1, g2⟩, hB⟩ := h
  refine ⟨h1.set (by omega), ⟨_, _, _, hP.s1, ?_, ?_, ?_, fun _ => g0 (by omega), fun _ => hc, fun h => absurd h (by omega)⟩, g_set hB (show w.heap.size ≤ p by omega) _⟩
  · rw [e0]; simp
  · simp [hn]
  · rw [e2]; simp
theorem GL.n2 {x y z : ByteArray} {p : Nat} {w wr : World} (h : GL x y z p w 2 wr) (hn : star z = z) (hc : okS z = true) : GL x y z p w (2+1) wr := by
  obtain ⟨h1, ⟨z0, z1, z2, hP, e0, e1, e2, g0, g1, g2⟩, hB⟩ := h
  refine ⟨h1, ⟨z0, z1, z2, hP, ?_, ?_, ?_, fun _ => g0 (by omega), fun _ => g1 (by omega), fun _ => hc⟩, hB⟩
  · rw [e0]; simp
  · rw [e1]; simp
  · rw [e2]; simp [hn]
theorem GL.s2 {x y z : ByteArray} {p : Nat} {w wr : World} (h : GL x y z p w 2 wr) (hp : w.heap.size < p) (hn : star z = ⟨#[]⟩) (hc : okS z = true) : GL x y z p w (2+1) (wr.setCell ⟨p, 2, none⟩ (.string ⟨#[]⟩)) := by
  obtain ⟨h1, ⟨z0, z1, z2, hP, e0, e1, e2, g0, g1, g2⟩, hB⟩ := h
  refine ⟨h1.set (by omega), ⟨_, _, _, hP.s2, ?_, ?_, ?_, fun _ => g0 (by omega), fun _ => g1 (by omega), fun _ => hc⟩, g_set hB (show w.heap.size ≤ p by omega) _⟩
  · rw [e0]; simp
  · rw [e1]; simp
  · simp [hn]

set_option maxRecDepth 20000 in
set_option maxHeartbeats 2000000 in
theorem pg_d (s x r0 y z : ByteArray) (b1 b2 : Bool) (w : World) (hs : s.size ≤ maxLen) (h1 : cutB s 58 = (x, r0, b1)) (h2 : cutB r0 35 = (y, z, b2)) (h58 : cn s 58 = 1) (hn : cn s 35 = 1) (h0 : ¬ ix s 35 < ix s 58) :
    Calls Try.prog 70 #[.string s] w (PgRet s w) := by
  have hd := div_ix s (by omega) h0
  have hx : divF s = (x, y, z) := by unfold divF; rw [h1]; simp only; rw [h2]
  have HX := hid (sign_in h58 hn)
  rw [hx, if_neg (by omega)] at hd
  rw [hx, decide_eq_false h0] at HX
  simp only [Prod.mk.injEq] at hd
  have hno : ¬ (¬ cn s 58 = 1 ∨ ¬ cn s 35 = 1 ∨ ix s 35 < ix s 58) := by omega
  have HK6 := hid (fun k => gpar6 hno hd.1.symm hd.2.1.symm hd.2.2.symm k)
  have HK0 := hid (fun k => gpar0 hno hd.1.symm hd.2.1.symm hd.2.2.symm k)
  have hsz := div_sizes s
  rw [hx] at hsz
  have sx := Nat.le_trans hsz.1 hs
  have sy := Nat.le_trans hsz.2.1 hs
  have sz := Nat.le_trans hsz.2.2 hs
  simp only at sx sy sz
  have HM := hid h58; clear h58
  have HN := hid hn; clear hn
  clear h0 hx hd hno hsz
  have i0 := ar0 x y z
  have i1 := ar1 x y z
  have i2 := ar2 x y z
  have hr : r0.size ≤ maxLen := by have := cutB_size s 58; rw [h1] at this; exact Nat.le_trans this hs
  have H1 := hid h1; clear h1
  have H2 := hid h2; clear h2
  go_enter Try.func70, Try.ntmps70
  go_wp2_with fail
  refine (cut_v s x r0 58 b1 _ hs H1.out).mono ?_
  rintro e w' ⟨rfl, d1, rfl⟩
  go_wp2_with fail
  refine (cut_v r0 y z 35 b2 _ hr H2.out).mono ?_
  rintro e w' ⟨rfl, d2, rfl⟩
  go_wp2_with fail
  refine (cnt s 58 1 _ HM.out).mono ?_
  rintro e w' ⟨rfl, rfl⟩
  go_wp2_with fail
  refine (cnt s 35 1 _ HN.out).mono ?_
  rintro e w' ⟨rfl, rfl⟩
  go_wp2_with fail
  refine (has x 35 false _ HX.out).mono ?_
  rintro e w' ⟨rfl, rfl⟩
  go_wp2
  have hp : w.heap.size < w.heap.size + 1 := by omega
  go_loopw [44] (fun i wr => ∃ k : Nat, k ≤ 3 ∧ i = .int .i64 k ∧ GL x y z (w.heap.size + 1) w k wr) (fun i _ => 3 - (intOf i).toNat)
  case atStart => exact ⟨0, by omega, rfl, GL.z (by simp only [OZ]; exact ⟨by go_simp, by go_simp, by go_simp, by go_simp, by go_simp, by go_simp, by go_simp, by go_simp, by go_simp, by go_simp, by go_simp, by go_simp, by go_simp, by go_simp, by simp <;> omega⟩) (by simp only [P3]; exact ⟨by go_simp, by go_simp, by go_simp, by go_simp, by go_simp, by go_simp, by simp <;> omega⟩) (by repeat (first | (with_reducible exact g_refl) | (with_reducible refine g_drewN ?_ _) | (with_reducible refine g_alloc ?_ _)))⟩
  case round =>
    obtain ⟨k, hk, rfl, hgl⟩ := hrel
    have HGL := hid hgl
    obtain ⟨h1, ⟨z0, z1, z2, hP, e0, e1, e2, g0, g1, g2⟩, hB⟩ := hgl
    have HG0 := hid g0; clear g0
    have HG1 := hid g1; clear g1
    have HG2 := hid g2; clear g2
    have HE0 := hid e0; clear e0
    have HE1 := hid e1; clear e1
    have HE2 := hid e2; clear e2
    have H3 := hid h1; clear h1
    obtain ⟨m0, m1, m2, y0, y1, y2, hpw⟩ := hP
    rcases (show k = 0 ∨ k = 1 ∨ k = 2 ∨ k = 3 by omega) with rfl | rfl | rfl | rfl <;> clear hk
    · rcases st_cases x with q | ⟨q, nq⟩
      · have hq : (x.toList == [42]) = true := by rw [q, ByteArray.toList_eq]; rfl
        have HC : Hid (star x = ⟨#[]⟩ ∧ okS x = true) := hid (by rw [q]; exact ⟨star_y, okS_y⟩)
        clear q
        go_wp2
        go_roundw
        case rel => exact ⟨0+1, by omega, by go_num, GL.s0 HGL.out hp HC.out.1 HC.out.2⟩
        case measure => simp [intOf]
      · cases nn : nb x
        · have HK := hid (HK6.out (by rw [okS_no nq nn]; rfl))
          have HN2 := hid nn
          clear nq nn
          obtain ⟨o0, o1, o2, o3, o4, o5, o6, u0, u1, u2, u3, u4, u5, u6, u7⟩ := H3.out
          go_wp2_with fail
          refine (check_no x _ sx HN2.out).mono ?_
          rintro r w' ⟨rfl, rfl⟩
          go_wp2
          (try simp only [Exit.inBlock, Exit.then])
          refine bodyPost_ret (v := .tuple #[.agg #[.string ⟨#[]⟩, .string ⟨#[]⟩, .string ⟨#[]⟩, .string ⟨#[]⟩, .string ⟨#[]⟩, .string ⟨#[]⟩, .bool false], .int .i64 6]) ?_ rfl ?_
          · simp [results, Try.results70, go_sem, *]
          · refine ⟨by rw [HK.out], ?_⟩
            repeat (first | (with_reducible refine g_alloc ?_ _) | (with_reducible refine g_drewN ?_ _) | (with_reducible refine g_set ?_ (Nat.le_refl _) _))
            with_reducible exact hB
        · have HC : Hid (star x = x ∧ okS x = true) := hid ⟨star_n nq, okS_n nn⟩
          have HN2 := hid nn
          clear nq nn
          go_wp2_with fail
          refine (check_yes x _ sx HN2.out).mono ?_
          rintro r w' ⟨rfl, rfl⟩
          go_wp2
          go_roundw
          case rel => exact ⟨0+1, by omega, by go_num, GL.n0 HGL.out HC.out.1 HC.out.2⟩
          case measure => simp [intOf]
    · rcases st_cases y with q | ⟨q, nq⟩
      · have hq : (y.toList == [42]) = true := by rw [q, ByteArray.toList_eq]; rfl
        have HC : Hid (star y = ⟨#[]⟩ ∧ okS y = true) := hid (by rw [q]; exact ⟨star_y, okS_y⟩)
        clear q
        go_wp2
        go_roundw
        case rel => exact ⟨1+1, by omega, by go_num, GL.s1 HGL.out hp HC.out.1 HC.out.2⟩
        case measure => simp [intOf]
      · cases nn : nb y
        · have HK := hid (HK6.out (by rw [okS_no nq nn, Bool.and_false]; rfl))
          have HN2 := hid nn
          clear nq nn
          obtain ⟨o0, o1, o2, o3, o4, o5, o6, u0, u1, u2, u3, u4, u5, u6, u7⟩ := H3.out
          go_wp2_with fail
          refine (check_no y _ sy HN2.out).mono ?_
          rintro r w' ⟨rfl, rfl⟩
          go_wp2
          (try simp only [Exit.inBlock, Exit.then])
          refine bodyPost_ret (v := .tuple #[.agg #[.string ⟨#[]⟩, .string ⟨#[]⟩, .string ⟨#[]⟩, .string ⟨#[]⟩, .string ⟨#[]⟩, .string ⟨#[]⟩, .bool false], .int .i64 6]) ?_ rfl ?_
          · simp [results, Try.results70, go_sem, *]
          · refine ⟨by rw [HK.out], ?_⟩
            repeat (first | (with_reducible refine g_alloc ?_ _) | (with_reducible refine g_drewN ?_ _) | (with_reducible refine g_set ?_ (Nat.le_refl _) _))
            with_reducible exact hB
        · have HC : Hid (star y = y ∧ okS y = true) := hid ⟨star_n nq, okS_n nn⟩
          have HN2 := hid nn
          clear nq nn
          go_wp2_with fail
          refine (check_yes y _ sy HN2.out).mono ?_
          rintro r w' ⟨rfl, rfl⟩
          go_wp2
          go_roundw
          case rel => exact ⟨1+1, by omega, by go_num, GL.n1 HGL.out HC.out.1 HC.out.2⟩
          case measure => simp [intOf]
    · rcases st_cases z with q | ⟨q, nq⟩
      · have hq : (z.toList == [42]) = true := by rw [q, ByteArray.toList_eq]; rfl
        have HC : Hid (star z = ⟨#[]⟩ ∧ okS z = true) := hid (by rw [q]; exact ⟨star_y, okS_y⟩)
        clear q
        go_wp2
        go_roundw
        case rel => exact ⟨2+1, by omega, by go_num, GL.s2 HGL.out hp HC.out.1 HC.out.2⟩
        case measure => simp [intOf]
      · cases nn : nb z
        · have HK := hid (HK6.out (by rw [okS_no nq nn, Bool.and_false]))
          have HN2 := hid nn
          clear nq nn
          obtain ⟨o0, o1, o2, o3, o4, o5, o6, u0, u1, u2, u3, u4, u5, u6, u7⟩ := H3.out
          go_wp2_with fail
          refine (check_no z _ sz HN2.out).mono ?_
          rintro r w' ⟨rfl, rfl⟩
          go_wp2
          (try simp only [Exit.inBlock, Exit.then])
          refine bodyPost_ret (v := .tuple #[.agg #[.string ⟨#[]⟩, .string ⟨#[]⟩, .string ⟨#[]⟩, .string ⟨#[]⟩, .string ⟨#[]⟩, .string ⟨#[]⟩, .bool false], .int .i64 6]) ?_ rfl ?_
          · simp [results, Try.results70, go_sem, *]
          · refine ⟨by rw [HK.out], ?_⟩
            repeat (first | (with_reducible refine g_alloc ?_ _) | (with_reducible refine g_drewN ?_ _) | (with_reducible refine g_set ?_ (Nat.le_refl _) _))
            with_reducible exact hB
        · have HC : Hid (star z = z ∧ okS z = true) := hid ⟨star_n nq, okS_n nn⟩
          have HN2 := hid nn
          clear nq nn
          go_wp2_with fail
          refine (check_yes z _ sz HN2.out).mono ?_
          rintro r w' ⟨rfl, rfl⟩
          go_wp2
          go_roundw
          case rel => exact ⟨2+1, by omega, by go_num, GL.n2 HGL.out HC.out.1 HC.out.2⟩
          case measure => simp [intOf]
    · have f0 : z0 = star x := by have := HE0.out; simpa using this
      have f1 : z1 = star y := by have := HE1.out; simpa using this
      have f2 : z2 = star z := by have := HE2.out; simpa using this
      have HK := hid (HK0.out (by rw [HG0.out (by omega), HG1.out (by omega), HG2.out (by omega)]; rfl))
      rw [f0] at m0
      rw [f1] at m1
      rw [f2] at m2
      clear f0 f1 f2
      obtain ⟨o0, o1, o2, o3, o4, o5, o6, u0, u1, u2, u3, u4, u5, u6, u7⟩ := H3.out
      go_wp2
      (try simp only [Exit.inBlock, Exit.then])
      refine bodyPost_ret (v := .tuple #[.agg #[.string (star x), .string (star y), .string (star z), .string ⟨#[]⟩, .string ⟨#[]⟩, .string ⟨#[]⟩, .bool false], .int .i64 0]) ?_ rfl ?_
      · simp [results, Try.results70, go_sem, *]
      · refine ⟨by rw [HK.out], ?_⟩
        repeat (first | (with_reducible refine g_alloc ?_ _) | (with_reducible refine g_drewN ?_ _) | (with_reducible refine g_set ?_ (Nat.le_refl _) _))
        with_reducible exact hB

theorem parseG (s : ByteArray) (w : World) (hs : s.size ≤ maxLen) : Calls Try.prog 70 #[.string s] w (PgRet s w) := by
  obtain ⟨⟨x, r0, b1⟩, h1⟩ : ∃ t, cutB s 58 = t := ⟨_, rfl⟩
  obtain ⟨⟨y, z, b2⟩, h2⟩ : ∃ t, cutB r0 35 = t := ⟨_, rfl⟩
  by_cases h58 : cn s 58 = 1
  · by_cases h35 : cn s 35 = 1
    · by_cases h0 : ix s 35 < ix s 58
      · exact pg_c s x r0 y z b1 b2 w hs h1 h2 h58 h35 h0
      · exact pg_d s x r0 y z b1 b2 w hs h1 h2 h58 h35 h0
    · exact pg_b s x r0 y z b1 b2 w hs h1 h2 _ h58 rfl h35
  · exact pg_a s x r0 y z b1 b2 w hs h1 h2 _ rfl h58
end Go.Proofs.Ytgfgfggoofjeeaa
namespace Go.Proofs.Ytgfgfggoofjeeaa
open Go.RowKit Go.Sort

/-- the goal's part of a text -/
def gof (s : ByteArray) : ByteArray := if cn s 64 = 0 then s else s.extract 0 (ix s 64)
/-- the filter of a text, and the number of the error -/
def fpar (s : ByteArray) : Fil × Int :=
  if 1 < cn s 64 then (zF, 5)
  else if ¬ (gpar (gof s)).2.2.2 = 0 then (zF, (gpar (gof s)).2.2.2)
  else if cn s 64 = 0 then (⟨(gpar (gof s)).1, (gpar (gof s)).2.1, (gpar (gof s)).2.2.1, ⟨#[]⟩, ⟨#[]⟩, ⟨#[]⟩, false⟩, 0)
  else if ¬ (parseF (s.extract (ix s 64 + 1) s.size) 0 1).2.2.2 = 0 then (zF, (parseF (s.extract (ix s 64 + 1) s.size) 0 1).2.2.2)
  else (⟨(gpar (gof s)).1, (gpar (gof s)).2.1, (gpar (gof s)).2.2.1, (parseF (s.extract (ix s 64 + 1) s.size) 0 1).1, (parseF (s.extract (ix s 64 + 1) s.size) 0 1).2.1, (parseF (s.extract (ix s 64 + 1) s.size) 0 1).2.2.1, true⟩, 0)
theorem fpar_many {s : ByteArray} (h : 1 < cn s 64) : fpar s = (zF, 5) := by unfold fpar; rw [if_pos h]
theorem fpar_gerr {s a b c : ByteArray} {e : Int} (h : ¬ 1 < cn s 64) (hg : gpar (gof s) = (a, b, c, e)) (he : ¬ e = 0) : fpar s = (zF, e) := by unfold fpar; rw [if_neg h, hg, if_pos he]
theorem fpar_plain {s a b c : ByteArray} (h : cn s 64 = 0) (hg : gpar (gof s) = (a, b, c, 0)) : fpar s = (⟨a, b, c, ⟨#[]⟩, ⟨#[]⟩, ⟨#[]⟩, false⟩, 0) := by unfold fpar; rw [if_neg (by omega), hg, if_neg (fun h => h rfl), if_pos h]
theorem fpar_serr {s a b c d e f : ByteArray} {n : Int} (h : cn s 64 = 1) (hg : gpar (gof s) = (a, b, c, 0)) (hu : parseF (s.extract (ix s 64 + 1) s.size) 0 1 = (d, e, f, n)) (hn : ¬ n = 0) : fpar s = (zF, n) := by
  unfold fpar; rw [if_neg (by omega), hg, if_neg (fun h => h rfl), if_neg (by omega), hu, if_pos hn]
theorem fpar_sub {s a b c d e f : ByteArray} (h : cn s 64 = 1) (hg : gpar (gof s) = (a, b, c, 0)) (hu : parseF (s.extract (ix s 64 + 1) s.size) 0 1 = (d, e, f, 0)) : fpar s = (⟨a, b, c, d, e, f, true⟩, 0) := by
  unfold fpar; rw [if_neg (by omega), hg, if_neg (fun h => h rfl), if_neg (by omega), hu, if_neg (fun h => h rfl)]
def FParRet (s : ByteArray) (w : World) (e : Ending) (w' : World) : Prop := e = .returned (.tuple #[valF (fpar s).1, .int .i64 (fpar s).2]) ∧ Below w.heap.size w w'
theorem parseG_v (s a b c : ByteArray) (e : Int) (w : World) (hs : s.size ≤ maxLen) (h : gpar s = (a, b, c, e)) :
    Calls Try.prog 70 #[.string s] w fun r w' => r = .returned (.tuple #[.agg #[.string a, .string b, .string c, .string ⟨#[]⟩, .string ⟨#[]⟩, .string ⟨#[]⟩, .bool false], .int .i64 e]) ∧ Below w.heap.size w w' := by
  have q := parseG s w hs; unfold PgRet at q; rw [h] at q; exact q
attribute [local go_sem] drewN_setCell drewN_alloc

set_option maxRecDepth 20000 in
set_option maxHeartbeats 2000000 in
theorem par_many (s x r : ByteArray) (ex : Bool)  (w : World) (hs : s.size ≤ maxLen) (_hx : x.size ≤ maxLen) (_hr : r.size ≤ maxLen) (h1 : cutB s 64 = (x, r, ex)) (hb : decide (0 ≤ Lib.indexByte r.data.toList 64) = true) (hk : fpar s = (zF, 5)) :
    Calls Try.prog 39 #[.string s] w (FParRet s w) := by
  have HK := hid hk; clear hk
  have HB := hid hb; clear hb
  have H1 := hid h1; clear h1
  go_enter Try.func39, Try.ntmps39
  go_wp2_with fail
  refine (cut_v s x r 64 _ _ hs H1.out).mono ?_
  rintro e0 w' ⟨rfl, d1, rfl⟩
  go_wp2_with fail
  refine (has r 64 true _ HB.out).mono ?_
  rintro e0 w' ⟨rfl, rfl⟩
  go_wp2
  (try simp only [Exit.inBlock, Exit.then])
  refine bodyPost_ret (v := .tuple #[.agg #[.string ⟨#[]⟩, .string ⟨#[]⟩, .string ⟨#[]⟩, .string ⟨#[]⟩, .string ⟨#[]⟩, .string ⟨#[]⟩, .bool false], .int .i64 5]) ?_ rfl ?_
  · simp [results, Try.results39, go_sem, *]
  · refine ⟨by rw [HK.out]; rfl, ?_⟩
    repeat (first | (with_reducible refine g_alloc ?_ _) | (with_reducible refine g_drewN ?_ _) | (with_reducible refine g_set ?_ (Nat.le_refl _) _))
    with_reducible exact g_refl

set_option maxRecDepth 20000 in
set_option maxHeartbeats 2000000 in
theorem par_gerr (s x r : ByteArray) (ex : Bool) (a b c : ByteArray) (n : Int) (w : World) (hs : s.size ≤ maxLen) (hx : x.size ≤ maxLen) (_hr : r.size ≤ maxLen) (h1 : cutB s 64 = (x, r, ex)) (hb : decide (0 ≤ Lib.indexByte r.data.toList 64) = false) (hg : gpar x = (a, b, c, n)) (hn : ¬ n = 0) (hk : fpar s = (zF, n)) :
    Calls Try.prog 39 #[.string s] w (FParRet s w) := by
  have HK := hid hk; clear hk
  have HB := hid hb; clear hb
  have HG := hid hg; clear hg
  have H1 := hid h1; clear h1
  go_enter Try.func39, Try.ntmps39
  go_wp2_with fail
  refine (cut_v s x r 64 _ _ hs H1.out).mono ?_
  rintro e0 w' ⟨rfl, d1, rfl⟩
  go_wp2_with fail
  refine (has r 64 false _ HB.out).mono ?_
  rintro e0 w' ⟨rfl, rfl⟩
  go_wp2_with fail
  refine (parseG_v x a b c n _ hx HG.out).mono ?_
  rintro e0 w1 ⟨rfl, hw1⟩
  have HOZ : Hid (OZ w1 w.heap.size) := hid (OZ.keep (by simp only [OZ]; exact ⟨by go_simp, by go_simp, by go_simp, by go_simp, by go_simp, by go_simp, by go_simp, by go_simp, by go_simp, by go_simp, by go_simp, by go_simp, by go_simp, by go_simp, by simp <;> omega⟩) hw1)
  have hz1 : w.heap.size < w1.heap.size := HOZ.out.2.2.2.2.2.2.2.2.2.2.2.2.2.2
  have hB1 : Below w.heap.size w w1 := g_trans (by repeat (first | (with_reducible exact g_refl) | (with_reducible refine g_drewN ?_ _) | (with_reducible refine g_alloc ?_ _))) hw1
  clear hw1
  obtain ⟨o0, o1, o2, o3, o4, o5, o6, u0, u1, u2, u3, u4, u5, u6, u7⟩ := HOZ.out
  cases ex
  · go_wp2
    (try simp only [Exit.inBlock, Exit.then])
    refine bodyPost_ret (v := .tuple #[.agg #[.string ⟨#[]⟩, .string ⟨#[]⟩, .string ⟨#[]⟩, .string ⟨#[]⟩, .string ⟨#[]⟩, .string ⟨#[]⟩, .bool false], .int .i64 n]) ?_ rfl ?_
    · simp [results, Try.results39, go_sem, *]
    · refine ⟨by rw [HK.out]; rfl, ?_⟩
      repeat (first | (with_reducible refine g_alloc ?_ _) | (with_reducible refine g_drewN ?_ _) | (with_reducible refine g_set ?_ (Nat.le_refl _) _) | (with_reducible refine g_set ?_ (show w.heap.size ≤ w1.heap.size by omega) _))
      with_reducible exact hB1
  · go_wp2
    (try simp only [Exit.inBlock, Exit.then])
    refine bodyPost_ret (v := .tuple #[.agg #[.string ⟨#[]⟩, .string ⟨#[]⟩, .string ⟨#[]⟩, .string ⟨#[]⟩, .string ⟨#[]⟩, .string ⟨#[]⟩, .bool false], .int .i64 n]) ?_ rfl ?_
    · simp [results, Try.results39, go_sem, *]
    · refine ⟨by rw [HK.out]; rfl, ?_⟩
      repeat (first | (with_reducible refine g_alloc ?_ _) | (with_reducible refine g_drewN ?_ _) | (with_reducible refine g_set ?_ (Nat.le_refl _) _) | (with_reducible refine g_set ?_ (show w.heap.size ≤ w1.heap.size by omega) _))
      with_reducible exact hB1

set_option maxRecDepth 20000 in
set_option maxHeartbeats 2000000 in
theorem par_plain (s x r : ByteArray) (ex : Bool) (a b c : ByteArray) (w : World) (hs : s.size ≤ maxLen) (hx : x.size ≤ maxLen) (_hr : r.size ≤ maxLen) (h1 : cutB s 64 = (x, r, ex)) (hb : decide (0 ≤ Lib.indexByte r.data.toList 64) = false) (hg : gpar x = (a, b, c, 0)) (hex : ex = false) (hk : fpar s = (⟨a, b, c, ⟨#[]⟩, ⟨#[]⟩, ⟨#[]⟩, false⟩, 0)) :
    Calls Try.prog 39 #[.string s] w (FParRet s w) := by
  subst hex
  have HK := hid hk; clear hk
  have HB := hid hb; clear hb
  have HG := hid hg; clear hg
  have H1 := hid h1; clear h1
  go_enter Try.func39, Try.ntmps39
  go_wp2_with fail
  refine (cut_v s x r 64 _ _ hs H1.out).mono ?_
  rintro e0 w' ⟨rfl, d1, rfl⟩
  go_wp2_with fail
  refine (has r 64 false _ HB.out).mono ?_
  rintro e0 w' ⟨rfl, rfl⟩
  go_wp2_with fail
  refine (parseG_v x a b c 0 _ hx HG.out).mono ?_
  rintro e0 w1 ⟨rfl, hw1⟩
  have HOZ : Hid (OZ w1 w.heap.size) := hid (OZ.keep (by simp only [OZ]; exact ⟨by go_simp, by go_simp, by go_simp, by go_simp, by go_simp, by go_simp, by go_simp, by go_simp, by go_simp, by go_simp, by go_simp, by go_simp, by go_simp, by go_simp, by simp <;> omega⟩) hw1)
  have hz1 : w.heap.size < w1.heap.size := HOZ.out.2.2.2.2.2.2.2.2.2.2.2.2.2.2
  have hB1 : Below w.heap.size w w1 := g_trans (by repeat (first | (with_reducible exact g_refl) | (with_reducible refine g_drewN ?_ _) | (with_reducible refine g_alloc ?_ _))) hw1
  clear hw1
  obtain ⟨o0, o1, o2, o3, o4, o5, o6, u0, u1, u2, u3, u4, u5, u6, u7⟩ := HOZ.out
  go_wp2
  (try simp only [Exit.inBlock, Exit.then])
  refine bodyPost_ret (v := .tuple #[.agg #[.string a, .string b, .string c, .string ⟨#[]⟩, .string ⟨#[]⟩, .string ⟨#[]⟩, .bool false], .int .i64 0]) ?_ rfl ?_
  · simp [results, Try.results39, go_sem, *]
  · refine ⟨by rw [HK.out]; rfl, ?_⟩
    repeat (first | (with_reducible refine g_alloc ?_ _) | (with_reducible refine g_drewN ?_ _) | (with_reducible refine g_set ?_ (Nat.le_refl _) _) | (with_reducible refine g_set ?_ (show w.heap.size ≤ w1.heap.size by omega) _))
    with_reducible exact hB1

set_option maxRecDepth 20000 in
set_option maxHeartbeats 2000000 in
theorem par_serr (s x r : ByteArray) (ex : Bool) (a b c d e f : ByteArray) (n : Int) (w : World) (hs : s.size ≤ maxLen) (hx : x.size ≤ maxLen) (hr : r.size ≤ maxLen) (h1 : cutB s 64 = (x, r, ex)) (hb : decide (0 ≤ Lib.indexByte r.data.toList 64) = false) (hg : gpar x = (a, b, c, 0)) (hex : ex = true) (hu : parseF r 0 1 = (d, e, f, n)) (hn : ¬ n = 0) (hk : fpar s = (zF, n)) :
    Calls Try.prog 39 #[.string s] w (FParRet s w) := by
  subst hex
  have HK := hid hk; clear hk
  have HU := hid hu; clear hu
  have HB := hid hb; clear hb
  have HG := hid hg; clear hg
  have H1 := hid h1; clear h1
  go_enter Try.func39, Try.ntmps39
  go_wp2_with fail
  refine (cut_v s x r 64 _ _ hs H1.out).mono ?_
  rintro e0 w' ⟨rfl, d1, rfl⟩
  go_wp2_with fail
  refine (has r 64 false _ HB.out).mono ?_
  rintro e0 w' ⟨rfl, rfl⟩
  go_wp2_with fail
  refine (parseG_v x a b c 0 _ hx HG.out).mono ?_
  rintro e0 w1 ⟨rfl, hw1⟩
  have HOZ : Hid (OZ w1 w.heap.size) := hid (OZ.keep (by simp only [OZ]; exact ⟨by go_simp, by go_simp, by go_simp, by go_simp, by go_simp, by go_simp, by go_simp, by go_simp, by go_simp, by go_simp, by go_simp, by go_simp, by go_simp, by go_simp, by simp <;> omega⟩) hw1)
  have hz1 : w.heap.size < w1.heap.size := HOZ.out.2.2.2.2.2.2.2.2.2.2.2.2.2.2
  have hB1 : Below w.heap.size w w1 := g_trans (by repeat (first | (with_reducible exact g_refl) | (with_reducible refine g_drewN ?_ _) | (with_reducible refine g_alloc ?_ _))) hw1
  clear hw1
  go_wp2_with fail
  refine (parseSubject_v r d e f n _ hr HU.out).mono ?_
  rintro e0 w2 ⟨rfl, hw2⟩
  have own := own_cells hw2 w1.heap.size (by simp)
  have xc0 : w2.cell? ⟨w1.heap.size, 0, none⟩ = some (.string a) := (own 0).1.trans (by go_simp)
  have xf0 : w2.frozen? ⟨w1.heap.size, 0, none⟩ = false := (own 0).2.trans (by go_simp)
  have xc1 : w2.cell? ⟨w1.heap.size, 1, none⟩ = some (.string b) := (own 1).1.trans (by go_simp)
  have xf1 : w2.frozen? ⟨w1.heap.size, 1, none⟩ = false := (own 1).2.trans (by go_simp)
  have xc2 : w2.cell? ⟨w1.heap.size, 2, none⟩ = some (.string c) := (own 2).1.trans (by go_simp)
  have xf2 : w2.frozen? ⟨w1.heap.size, 2, none⟩ = false := (own 2).2.trans (by go_simp)
  have xc3 : w2.cell? ⟨w1.heap.size, 3, none⟩ = some (.string ⟨#[]⟩) := (own 3).1.trans (by go_simp)
  have xf3 : w2.frozen? ⟨w1.heap.size, 3, none⟩ = false := (own 3).2.trans (by go_simp)
  have xc4 : w2.cell? ⟨w1.heap.size, 4, none⟩ = some (.string ⟨#[]⟩) := (own 4).1.trans (by go_simp)
  have xf4 : w2.frozen? ⟨w1.heap.size, 4, none⟩ = false := (own 4).2.trans (by go_simp)
  have xc5 : w2.cell? ⟨w1.heap.size, 5, none⟩ = some (.string ⟨#[]⟩) := (own 5).1.trans (by go_simp)
  have xf5 : w2.frozen? ⟨w1.heap.size, 5, none⟩ = false := (own 5).2.trans (by go_simp)
  have xc6 : w2.cell? ⟨w1.heap.size, 6, none⟩ = some (.bool true) := (own 6).1.trans (by go_simp)
  have xf6 : w2.frozen? ⟨w1.heap.size, 6, none⟩ = false := (own 6).2.trans (by go_simp)
  clear own
  have HOZ2 : Hid (OZ w2 w.heap.size) := hid (OZ.keep (by first | exact OZ.keep HOZ.out (g_alloc g_refl _) | exact OZ.set (OZ.keep HOZ.out (g_alloc g_refl _)) (by omega) | exact OZ.keep (OZ.set HOZ.out (by omega)) (g_alloc g_refl _)) hw2)
  have hB2 : Below w.heap.size w w2 := g_trans (by repeat (first | (with_reducible exact hB1) | (with_reducible refine g_alloc ?_ _) | (with_reducible refine g_set ?_ (show w.heap.size ≤ w1.heap.size by omega) _))) hw2
  have hz2 : w1.heap.size < w2.heap.size := by have := hw2.size; simp at this; omega
  clear hw2 hB1
  obtain ⟨o0, o1, o2, o3, o4, o5, o6, u0, u1, u2, u3, u4, u5, u6, u7⟩ := HOZ2.out
  go_wp2
  (try simp only [Exit.inBlock, Exit.then])
  refine bodyPost_ret (v := .tuple #[.agg #[.string ⟨#[]⟩, .string ⟨#[]⟩, .string ⟨#[]⟩, .string ⟨#[]⟩, .string ⟨#[]⟩, .string ⟨#[]⟩, .bool false], .int .i64 n]) ?_ rfl ?_
  · simp [results, Try.results39, go_sem, *]
  · refine ⟨by rw [HK.out]; rfl, ?_⟩
    repeat (first | (with_reducible refine g_alloc ?_ _) | (with_reducible refine g_drewN ?_ _) | (with_reducible refine g_set ?_ (Nat.le_refl _) _) | (with_reducible refine g_set ?_ (show w.heap.size ≤ w1.heap.size by omega) _))
    with_reducible exact hB2

set_option maxRecDepth 20000 in
set_option maxHeartbeats 2000000 in
theorem par_sub (s x r : ByteArray) (ex : Bool) (a b c d e f : ByteArray) (w : World) (hs : s.size ≤ maxLen) (hx : x.size ≤ maxLen) (hr : r.size ≤ maxLen) (h1 : cutB s 64 = (x, r, ex)) (hb : decide (0 ≤ Lib.indexByte r.data.toList 64) = false) (hg : gpar x = (a, b, c, 0)) (hex : ex = true) (hu : parseF r 0 1 = (d, e, f, 0)) (hk : fpar s = (⟨a, b, c, d, e, f, true⟩, 0)) :
    Calls Try.prog 39 #[.string s] w (FParRet s w) := by
  subst hex
  have HK := hid hk; clear hk
  have HU := hid hu; clear hu
  have HB := hid hb; clear hb
  have HG := hid hg; clear hg
  have H1 := hid h1; clear h1
  go_enter Try.func39, Try.ntmps39
  go_wp2_with fail
  refine (cut_v s x r 64 _ _ hs H1.out).mono ?_
  rintro e0 w' ⟨rfl, d1, rfl⟩
  go_wp2_with fail
  refine (has r 64 false _ HB.out).mono ?_
  rintro e0 w' ⟨rfl, rfl⟩
  go_wp2_with fail
  refine (parseG_v x a b c 0 _ hx HG.out).mono ?_
  rintro e0 w1 ⟨rfl, hw1⟩
  have HOZ : Hid (OZ w1 w.heap.size) := hid (OZ.keep (by simp only [OZ]; exact ⟨by go_simp, by go_simp, by go_simp, by go_simp, by go_simp, by go_simp, by go_simp, by go_simp, by go_simp, by go_simp, by go_simp, by go_simp, by go_simp, by go_simp, by simp <;> omega⟩) hw1)
  have hz1 : w.heap.size < w1.heap.size := HOZ.out.2.2.2.2.2.2.2.2.2.2.2.2.2.2
  have hB1 : Below w.heap.size w w1 := g_trans (by repeat (first | (with_reducible exact g_refl) | (with_reducible refine g_drewN ?_ _) | (with_reducible refine g_alloc ?_ _))) hw1
  clear hw1
  go_wp2_with fail
  refine (parseSubject_v r d e f 0 _ hr HU.out).mono ?_
  rintro e0 w2 ⟨rfl, hw2⟩
  have own := own_cells hw2 w1.heap.size (by simp)
  have xc0 : w2.cell? ⟨w1.heap.size, 0, none⟩ = some (.string a) := (own 0).1.trans (by go_simp)
  have xf0 : w2.frozen? ⟨w1.heap.size, 0, none⟩ = false := (own 0).2.trans (by go_simp)
  have xc1 : w2.cell? ⟨w1.heap.size, 1, none⟩ = some (.string b) := (own 1).1.trans (by go_simp)
  have xf1 : w2.frozen? ⟨w1.heap.size, 1, none⟩ = false := (own 1).2.trans (by go_simp)
  have xc2 : w2.cell? ⟨w1.heap.size, 2, none⟩ = some (.string c) := (own 2).1.trans (by go_simp)
  have xf2 : w2.frozen? ⟨w1.heap.size, 2, none⟩ = false := (own 2).2.trans (by go_simp)
  have xc3 : w2.cell? ⟨w1.heap.size, 3, none⟩ = some (.string ⟨#[]⟩) := (own 3).1.trans (by go_simp)
  have xf3 : w2.frozen? ⟨w1.heap.size, 3, none⟩ = false := (own 3).2.trans (by go_simp)
  have xc4 : w2.cell? ⟨w1.heap.size, 4, none⟩ = some (.string ⟨#[]⟩) := (own 4).1.trans (by go_simp)
  have xf4 : w2.frozen? ⟨w1.heap.size, 4, none⟩ = false := (own 4).2.trans (by go_simp)
  have xc5 : w2.cell? ⟨w1.heap.size, 5, none⟩ = some (.string ⟨#[]⟩) := (own 5).1.trans (by go_simp)
  have xf5 : w2.frozen? ⟨w1.heap.size, 5, none⟩ = false := (own 5).2.trans (by go_simp)
  have xc6 : w2.cell? ⟨w1.heap.size, 6, none⟩ = some (.bool true) := (own 6).1.trans (by go_simp)
  have xf6 : w2.frozen? ⟨w1.heap.size, 6, none⟩ = false := (own 6).2.trans (by go_simp)
  clear own
  have HOZ2 : Hid (OZ w2 w.heap.size) := hid (OZ.keep (by first | exact OZ.keep HOZ.out (g_alloc g_refl _) | exact OZ.set (OZ.keep HOZ.out (g_alloc g_refl _)) (by omega) | exact OZ.keep (OZ.set HOZ.out (by omega)) (g_alloc g_refl _)) hw2)
  have hB2 : Below w.heap.size w w2 := g_trans (by repeat (first | (with_reducible exact hB1) | (with_reducible refine g_alloc ?_ _) | (with_reducible refine g_set ?_ (show w.heap.size ≤ w1.heap.size by omega) _))) hw2
  have hz2 : w1.heap.size < w2.heap.size := by have := hw2.size; simp at this; omega
  clear hw2 hB1
  obtain ⟨o0, o1, o2, o3, o4, o5, o6, u0, u1, u2, u3, u4, u5, u6, u7⟩ := HOZ2.out
  go_wp2
  (try simp only [Exit.inBlock, Exit.then])
  refine bodyPost_ret (v := .tuple #[.agg #[.string a, .string b, .string c, .string d, .string e, .string f, .bool true], .int .i64 0]) ?_ rfl ?_
  · simp [results, Try.results39, go_sem, *]
  · refine ⟨by rw [HK.out]; rfl, ?_⟩
    repeat (first | (with_reducible refine g_alloc ?_ _) | (with_reducible refine g_drewN ?_ _) | (with_reducible refine g_set ?_ (Nat.le_refl _) _) | (with_reducible refine g_set ?_ (show w.heap.size ≤ w1.heap.size by omega) _))
    with_reducible exact hB2

theorem fparse (s : ByteArray) (w : World) (hs : s.size ≤ maxLen) : Calls Try.prog 39 #[.string s] w (FParRet s w) := by
  by_cases h0 : cn s 64 = 0
  · have h1 : cutB s 64 = (s, ByteArray.empty, false) := by rw [cutB_ix, if_pos h0]
    have hb : decide (0 ≤ Lib.indexByte (ByteArray.empty).data.toList 64) = false := by decide
    have hgo : gof s = s := by unfold gof; rw [if_pos h0]
    obtain ⟨⟨a, b, c, n⟩, hg⟩ : ∃ t, gpar s = t := ⟨_, rfl⟩
    by_cases hn : n = 0
    · subst hn
      exact par_plain s s ByteArray.empty false a b c w hs hs (Nat.zero_le _) h1 hb hg rfl (fpar_plain h0 (by rw [hgo]; exact hg))
    · exact par_gerr s s ByteArray.empty false a b c n w hs hs (Nat.zero_le _) h1 hb hg hn (fpar_gerr (by omega) (by rw [hgo]; exact hg) hn)
  · have h1 : cutB s 64 = (s.extract 0 (ix s 64), s.extract (ix s 64 + 1) s.size, true) := by rw [cutB_ix, if_neg h0]
    have hgo : gof s = s.extract 0 (ix s 64) := by unfold gof; rw [if_neg h0]
    have hx : (s.extract 0 (ix s 64)).size ≤ maxLen := by unfold maxLen at *; simp [ByteArray.size_extract]; omega
    have hr : (s.extract (ix s 64 + 1) s.size).size ≤ maxLen := by unfold maxLen at *; simp [ByteArray.size_extract]; omega
    have hcu := cut_at64 s
    rw [h1] at hcu
    simp only [Bool.true_eq_false, false_or] at hcu
    by_cases h2 : cn s 64 = 1
    · have hb : decide (0 ≤ Lib.indexByte (s.extract (ix s 64 + 1) s.size).data.toList 64) = false := decide_eq_false fun h => hcu.1 h h2
      obtain ⟨⟨a, b, c, n⟩, hg⟩ : ∃ t, gpar (s.extract 0 (ix s 64)) = t := ⟨_, rfl⟩
      by_cases hn : n = 0
      · subst hn
        obtain ⟨⟨d, e, f, m⟩, hu⟩ : ∃ t, parseF (s.extract (ix s 64 + 1) s.size) 0 1 = t := ⟨_, rfl⟩
        by_cases hm : m = 0
        · subst hm
          exact par_sub s _ _ true a b c d e f w hs hx hr h1 hb hg rfl hu (fpar_sub h2 (by rw [hgo]; exact hg) hu)
        · exact par_serr s _ _ true a b c d e f m w hs hx hr h1 hb hg rfl hu hm (fpar_serr h2 (by rw [hgo]; exact hg) hu hm)
      · exact par_gerr s _ _ true a b c n w hs hx hr h1 hb hg hn (fpar_gerr (by omega) (by rw [hgo]; exact hg) hn)
    · exact par_many s _ _ true w hs hx hr h1 (decide_eq_true (hcu.2 h2)) (fpar_many (by omega))
end Go.Proofs.Ytgfgfggoofjeeaa
