/-
  THE CONTRACT of tuples.Parse; the texts of tuples; Check.
-/
import Derived.Test.YtcdhejaoidjecaaTTup
import Derived.Test.YtcdhejaoidjecaaWText
namespace Go.Proofs.Ytcdhejaoidjecaa
open Go.RowKit Go.Sort

/-- the tuple of a text, and the number of the error, as the program has them -/
def ptup (s : ByteArray) : Tup × Int :=
  if (cutB s 64).2.2 = false ∨ 0 ≤ Lib.indexByte (cutB s 64).2.1.data.toList 64 then (default, 5)
  else if ¬ (parseF (cutB s 64).1 1 1).2.2.2 = 0 then (default, (parseF (cutB s 64).1 1 1).2.2.2)
  else if ¬ (parseF (cutB s 64).2.1 0 1).2.2.2 = 0 then (default, (parseF (cutB s 64).2.1 0 1).2.2.2)
  else (⟨(parseF (cutB s 64).1 1 1).1, (parseF (cutB s 64).1 1 1).2.1, (parseF (cutB s 64).1 1 1).2.2.1, (parseF (cutB s 64).2.1 0 1).1, (parseF (cutB s 64).2.1 0 1).2.1, (parseF (cutB s 64).2.1 0 1).2.2.1⟩, 0)
def PTupRet (s : ByteArray) (w : World) (e : Ending) (w' : World) : Prop := e = .returned (.tuple #[val (ptup s).1, .int .i64 (ptup s).2]) ∧ Below w.heap.size w w'
theorem cut_v (s x y : ByteArray) (c : UInt8) (b : Bool) (w : World) (hs : s.size ≤ maxLen) (h : cutB s c = (x, y, b)) :
    Calls Try.prog 56 #[.string s, .string ⟨#[c]⟩] w fun e w' => e = .returned (.tuple #[.string x, .string y, .bool b]) ∧ ∃ n, w' = w.drewN n := by
  have q := cut_any s c w hs; unfold CutRet at q; rw [h] at q; exact q
theorem parseGoal_v (s a b c : ByteArray) (e : Int) (w : World) (hs : s.size ≤ maxLen) (h : parseF s 1 1 = (a, b, c, e)) :
    Calls Try.prog 67 #[.string s] w fun r w' => r = .returned (.tuple #[.agg #[.string a, .string b, .string c], .int .i64 e]) ∧ Below w.heap.size w w' := by
  have q := parseGoal_any s w hs; unfold GoalRet at q; rw [h] at q; exact q
theorem parseSubject_v (s a b c : ByteArray) (e : Int) (w : World) (hs : s.size ≤ maxLen) (h : parseF s 0 1 = (a, b, c, e)) :
    Calls Try.prog 59 #[.string s] w fun r w' => r = .returned (.tuple #[.agg #[.string a, .string b, .string c], .int .i64 e]) ∧ Below w.heap.size w w' := by
  have q := parseSubject_any s w hs; unfold SubjectRet at q; rw [h] at q; exact q

set_option maxRecDepth 100000 in
set_option maxHeartbeats 8000000 in
theorem tparse (s : ByteArray) (w : World) (hs : s.size ≤ maxLen) :
    Calls Try.prog 38 #[.string s] w (PTupRet s w) := by
  obtain ⟨⟨x, y, t⟩, hc⟩ : ∃ z, cutB s 64 = z := ⟨_, rfl⟩
  have hx : x.size ≤ maxLen := by have := cutB_size1 s 64; rw [hc] at this; exact Nat.le_trans this hs
  have hy : y.size ≤ maxLen := by have := cutB_size s 64; rw [hc] at this; exact Nat.le_trans this hs
  obtain ⟨⟨a, b, c, e⟩, hg⟩ : ∃ z, parseF x 1 1 = z := ⟨_, rfl⟩
  obtain ⟨⟨a', b', c', e'⟩, hu⟩ : ∃ z, parseF y 0 1 = z := ⟨_, rfl⟩
  obtain ⟨k, hk⟩ : ∃ k, decide (0 ≤ Lib.indexByte y.data.toList 64) = k := ⟨_, rfl⟩
  have F : Hid (ptup s = if t = false ∨ k = true then (default, 5) else if ¬ e = 0 then (default, e) else if ¬ e' = 0 then (default, e') else (⟨a, b, c, a', b', c'⟩, 0)) := by
    show _ = _; unfold ptup; rw [hc, hg, hu, ← hk]; simp only [decide_eq_true_eq]
  have HC := hid hc; clear hc
  have HG := hid hg; clear hg
  have HU := hid hu; clear hu
  have HK := hid hk; clear hk
  have HX := hid hx; clear hx
  have HY := hid hy; clear hy
  have hs2 := hid hs; clear hs
  cases t
  · go_enter Try.func38, Try.ntmps38
    go_wp2_with fail
    refine (cut_v s x y 64 false _ hs2.out HC.out).mono ?_
    rintro r w0 ⟨rfl, n, rfl⟩
    go_wp2
    refine bodyPost_ret (v := .tuple #[.agg #[.string ⟨#[]⟩, .string ⟨#[]⟩, .string ⟨#[]⟩, .string ⟨#[]⟩, .string ⟨#[]⟩, .string ⟨#[]⟩], .int .i64 5]) (by simp [results, Try.results38, go_sem, *]) rfl ⟨by rw [F.out]; rfl, ?_⟩
    repeat (first | (with_reducible refine g_alloc ?_ _) | (with_reducible refine g_set ?_ (Nat.le_refl _) _) | (with_reducible refine g_drewN ?_ _))
    exact g_refl
  · cases k
    · go_enter Try.func38, Try.ntmps38
      go_wp2_with fail
      refine (cut_v s x y 64 true _ hs2.out HC.out).mono ?_
      rintro r w0 ⟨rfl, n, rfl⟩
      go_wp2_with fail
      refine (has y 64 false _ HK.out).mono ?_
      rintro r w0 ⟨rfl, rfl⟩
      go_wp2_with fail
      refine (parseGoal_v x a b c e _ HX.out HG.out).mono ?_
      rintro r w1 ⟨rfl, hw1⟩
      have hz1 : w.heap.size < w1.heap.size := by have := hw1.size; simp at this; omega
      have own := own_cells hw1 w.heap.size (by simp)
      have xc0 : w1.cell? ⟨w.heap.size, 0, none⟩ = some (.string ⟨#[]⟩) := (own 0).1.trans (by go_simp)
      have xf0 : w1.frozen? ⟨w.heap.size, 0, none⟩ = false := (own 0).2.trans (by go_simp)
      have xc1 : w1.cell? ⟨w.heap.size, 1, none⟩ = some (.string ⟨#[]⟩) := (own 1).1.trans (by go_simp)
      have xf1 : w1.frozen? ⟨w.heap.size, 1, none⟩ = false := (own 1).2.trans (by go_simp)
      have xc2 : w1.cell? ⟨w.heap.size, 2, none⟩ = some (.string ⟨#[]⟩) := (own 2).1.trans (by go_simp)
      have xf2 : w1.frozen? ⟨w.heap.size, 2, none⟩ = false := (own 2).2.trans (by go_simp)
      have xc3 : w1.cell? ⟨w.heap.size, 3, none⟩ = some (.string ⟨#[]⟩) := (own 3).1.trans (by go_simp)
      have xf3 : w1.frozen? ⟨w.heap.size, 3, none⟩ = false := (own 3).2.trans (by go_simp)
      have xc4 : w1.cell? ⟨w.heap.size, 4, none⟩ = some (.string ⟨#[]⟩) := (own 4).1.trans (by go_simp)
      have xf4 : w1.frozen? ⟨w.heap.size, 4, none⟩ = false := (own 4).2.trans (by go_simp)
      have xc5 : w1.cell? ⟨w.heap.size, 5, none⟩ = some (.string ⟨#[]⟩) := (own 5).1.trans (by go_simp)
      have xf5 : w1.frozen? ⟨w.heap.size, 5, none⟩ = false := (own 5).2.trans (by go_simp)
      clear own
      have hB1 : Below w.heap.size w w1 := g_trans (g_drewN (g_alloc g_refl _) _) hw1
      clear hw1
      by_cases he : e = 0
      · subst he
        go_wp2_with fail
        refine (parseSubject_v y a' b' c' e' _ HY.out HU.out).mono ?_
        rintro r w2 ⟨rfl, hw2⟩
        have hz2 : w1.heap.size < w2.heap.size := by have := hw2.size; simp at this; omega
        have hz3 : w.heap.size < w2.heap.size := by omega
        have own := own_cells hw2 w.heap.size (by simp; omega)
        have yc0 : w2.cell? ⟨w.heap.size, 0, none⟩ = some (.string ⟨#[]⟩) := (own 0).1.trans (by go_simp)
        have yf0 : w2.frozen? ⟨w.heap.size, 0, none⟩ = false := (own 0).2.trans (by go_simp)
        have yc1 : w2.cell? ⟨w.heap.size, 1, none⟩ = some (.string ⟨#[]⟩) := (own 1).1.trans (by go_simp)
        have yf1 : w2.frozen? ⟨w.heap.size, 1, none⟩ = false := (own 1).2.trans (by go_simp)
        have yc2 : w2.cell? ⟨w.heap.size, 2, none⟩ = some (.string ⟨#[]⟩) := (own 2).1.trans (by go_simp)
        have yf2 : w2.frozen? ⟨w.heap.size, 2, none⟩ = false := (own 2).2.trans (by go_simp)
        have yc3 : w2.cell? ⟨w.heap.size, 3, none⟩ = some (.string ⟨#[]⟩) := (own 3).1.trans (by go_simp)
        have yf3 : w2.frozen? ⟨w.heap.size, 3, none⟩ = false := (own 3).2.trans (by go_simp)
        have yc4 : w2.cell? ⟨w.heap.size, 4, none⟩ = some (.string ⟨#[]⟩) := (own 4).1.trans (by go_simp)
        have yf4 : w2.frozen? ⟨w.heap.size, 4, none⟩ = false := (own 4).2.trans (by go_simp)
        have yc5 : w2.cell? ⟨w.heap.size, 5, none⟩ = some (.string ⟨#[]⟩) := (own 5).1.trans (by go_simp)
        have yf5 : w2.frozen? ⟨w.heap.size, 5, none⟩ = false := (own 5).2.trans (by go_simp)
        clear own
        have own := own_cells hw2 w1.heap.size (by simp)
        have zc0 : w2.cell? ⟨w1.heap.size, 0, none⟩ = some (.string a) := (own 0).1.trans (by go_simp)
        have zc1 : w2.cell? ⟨w1.heap.size, 1, none⟩ = some (.string b) := (own 1).1.trans (by go_simp)
        have zc2 : w2.cell? ⟨w1.heap.size, 2, none⟩ = some (.string c) := (own 2).1.trans (by go_simp)
        clear own
        have hB2 : Below w.heap.size w w2 := g_trans (g_alloc hB1 _) hw2
        clear xc0 xc1 xc2 xc3 xc4 xc5 xf0 xf1 xf2 xf3 xf4 xf5 hw2 hB1
        by_cases he' : e' = 0
        · subst he'
          go_wp2
          refine bodyPost_ret (v := .tuple #[.agg #[.string a, .string b, .string c, .string a', .string b', .string c'], .int .i64 0]) (by simp [results, Try.results38, go_sem, *]) rfl ⟨by rw [F.out]; rfl, ?_⟩
          repeat (first | (with_reducible refine g_alloc ?_ _) | (with_reducible refine g_set ?_ (Nat.le_refl _) _) | (with_reducible refine g_drewN ?_ _))
          exact hB2
        · have hq : (e' == 0) = false := beq_eq_false_iff_ne.2 he'
          have HE := hid he'; clear he'
          go_wp2
          refine bodyPost_ret (v := .tuple #[.agg #[.string ⟨#[]⟩, .string ⟨#[]⟩, .string ⟨#[]⟩, .string ⟨#[]⟩, .string ⟨#[]⟩, .string ⟨#[]⟩], .int .i64 e']) (by simp [results, Try.results38, go_sem, *]) rfl ⟨by rw [F.out, if_neg (by decide), if_neg (by decide), if_pos HE.out]; rfl, ?_⟩
          repeat (first | (with_reducible refine g_alloc ?_ _) | (with_reducible refine g_set ?_ (Nat.le_refl _) _) | (with_reducible refine g_drewN ?_ _))
          exact hB2
      · have hq : (e == 0) = false := beq_eq_false_iff_ne.2 he
        have HE := hid he; clear he
        go_wp2
        refine bodyPost_ret (v := .tuple #[.agg #[.string ⟨#[]⟩, .string ⟨#[]⟩, .string ⟨#[]⟩, .string ⟨#[]⟩, .string ⟨#[]⟩, .string ⟨#[]⟩], .int .i64 e]) (by simp [results, Try.results38, go_sem, *]) rfl ⟨by rw [F.out, if_neg (by decide), if_pos HE.out]; rfl, ?_⟩
        repeat (first | (with_reducible refine g_alloc ?_ _) | (with_reducible refine g_set ?_ (Nat.le_refl _) _) | (with_reducible refine g_drewN ?_ _))
        exact hB1
    · go_enter Try.func38, Try.ntmps38
      go_wp2_with fail
      refine (cut_v s x y 64 true _ hs2.out HC.out).mono ?_
      rintro r w0 ⟨rfl, n, rfl⟩
      go_wp2_with fail
      refine (has y 64 true _ HK.out).mono ?_
      rintro r w0 ⟨rfl, rfl⟩
      go_wp2
      refine bodyPost_ret (v := .tuple #[.agg #[.string ⟨#[]⟩, .string ⟨#[]⟩, .string ⟨#[]⟩, .string ⟨#[]⟩, .string ⟨#[]⟩, .string ⟨#[]⟩], .int .i64 5]) (by simp [results, Try.results38, go_sem, *]) rfl ⟨by rw [F.out]; rfl, ?_⟩
      repeat (first | (with_reducible refine g_alloc ?_ _) | (with_reducible refine g_set ?_ (Nat.le_refl _) _) | (with_reducible refine g_drewN ?_ _))
      exact g_refl

end Go.Proofs.Ytcdhejaoidjecaa
