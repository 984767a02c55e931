/-
  TuplesParse returns true: the walk.
-/
import Derived.Test.YthdpagkadcbeiaaTFact
import Derived.Test.YthdpagkadcbeiaaTLives
namespace Go.Proofs.Ythdpagkadcbeiaa
open Go.RowKit Go.Sort

set_option maxHeartbeats 1000000 in
theorem parse_long (s : ByteArray) (w : World) (h : 200 < s.size) :
    Calls Try.prog 3 #[.string s] w fun e w' => e = .returned (.bool true) ∧ Below w.heap.size w w' := by
  have h1 : (200 : Int) < s.size := by omega
  go_enter Try.func3, Try.ntmps3
  go_wp2_with fail
  refine (lives_any _).mono ?_
  rintro e w' ⟨rfl, hw⟩
  go_wp2
  go_ret
  exact ⟨rfl, hw⟩

set_option maxHeartbeats 1000000 in
theorem parse_short (s : ByteArray) (w : World) (h : s.size ≤ 200) :
    Calls Try.prog 3 #[.string s] w fun e w' => e = .returned (.bool true) ∧ Below w.heap.size w w' := by
  have h1 : ¬ (200 : Int) < s.size := by omega
  have hm : s.size ≤ maxLen := Nat.le_trans h (by decide)
  obtain ⟨⟨x, n⟩, hx⟩ : ∃ z, rtup s = z := ⟨_, rfl⟩
  have HX := hid hx; clear hx
  go_enter Try.func3, Try.ntmps3
  go_wp2_with fail
  refine (tparse_v s x n _ hm ((tup_eq s).trans HX.out)).mono ?_
  rintro e w1 ⟨rfl, hw1⟩
  go_wp2_with fail
  refine (rtparse_v s x n _ hm HX.out).mono ?_
  rintro e w2 ⟨rfl, hw2⟩
  simp only [val]
  have T2 : Hid (Tc w2 w1.heap.size x) := hid (Tc.keep (by simp only [Tc]; exact ⟨by go_simp, by go_simp, by go_simp, by go_simp, by go_simp, by go_simp, by simp⟩) hw2)
  have hB : Below w.heap.size w w2 := g_trans (g_alloc hw1 _) hw2
  clear hw1 hw2
  have t := T2.out
  simp only [Tc] at t
  obtain ⟨t0, t1, t2, t3, t4, t5, t6⟩ := t
  go_wp2_with fail
  · clear t0 t1 t2 t3 t4 t5 t6
    have hn : n = 0 := by first | assumption | omega
    obtain ⟨hok, htx⟩ := rtup_good s x (by rw [← hn]; exact HX.out)
    have hsm := small_ok hok
    have HT := hid htx
    clear htx
    have T3 := hid (T2.out.keep (g_alloc g_refl (.cells #[.string x.a, .string x.b, .string x.c, .string x.d, .string x.e, .string x.f] 29)))
    have hB3 := hid (g_alloc hB (.cells #[.string x.a, .string x.b, .string x.c, .string x.d, .string x.e, .string x.f] 29))
    clear hB T2
    refine (tcheck x _ hsm.fits).mono ?_
    rintro e w3 ⟨rfl, hw3⟩
    rw [hok, show err true = 0 from rfl]
    have T4 := hid (T3.out.keep hw3)
    have hB4 := hid (g_trans hB3.out hw3)
    clear T3 hB3 hw3
    have t := T4.out
    simp only [Tc] at t
    obtain ⟨t0, t1, t2, t3, t4, t5, t6⟩ := t
    go_wp2_with fail
    clear t0 t1 t2 t3 t4 t5 t6
    refine (ttext x _ hsm).mono ?_
    rintro e w4 ⟨rfl, hw4⟩
    rw [HT.out]
    have hB5 := hid (g_trans hB4.out hw4)
    clear hB4 hw4
    go_wp2_with fail
    refine (lives_any _).mono ?_
    rintro e w' ⟨rfl, hw⟩
    go_wp2
    go_ret
    exact ⟨rfl, g_trans hB5.out hw⟩
  · refine (lives_any _).mono ?_
    rintro e w' ⟨rfl, hw⟩
    go_wp2
    go_ret
    exact ⟨rfl, g_trans (g_alloc hB _) hw⟩

theorem parse_walk (s : ByteArray) (w : World) (_ : s.size ≤ maxLen) :
    Calls Try.prog 3 #[.string s] w fun e w' => e = .returned (.bool true) ∧ Below w.heap.size w w' := by
  by_cases h : s.size ≤ 200
  · exact parse_short s w h
  · exact parse_long s w (by omega)

end Go.Proofs.Ythdpagkadcbeiaa
