/-
  THE CONTRACTS of the law's read and small.
  The law's lives returns true: the examples of the chapter.
-/
import Derived.Test.YtgfgfggoofjeeaaFRp
import Derived.Test.YtgfgfggoofjeeaaFTxt
import Derived.Test.YtgfgfggoofjeeaaFSpn
import Derived.Test.YtgfgfggoofjeeaaTAbc
import Derived.Test.YtgfgfggoofjeeaaFBoth
import Derived.Deep.DeepCutAuto
namespace Go.Proofs.Ytgfgfggoofjeeaa
open Go.RowKit Go.Sort

def tY : Tup := ⟨⟨#[97]⟩, ⟨#[121]⟩, ⟨#[115]⟩, ⟨#[117]⟩, ⟨#[97]⟩, ⟨#[]⟩⟩
/-- the list of the examples -/
def smallL : List Tup := [tA, tB, tY, tC]
theorem lrY : rtup ⟨#[97, 58, 121, 35, 115, 64, 117, 58, 97]⟩ = (tY, 0) := by decide +kernel
theorem sm_isB : isB cmpT smallL = true := by decide +kernel
theorem rfparse_v (s : ByteArray) (a b c d e f : ByteArray) (x : Bool) (n : Int) (w : World) (hs : s.size ≤ 90000) (h : fpar s = (⟨a, b, c, d, e, f, x⟩, n)) :
    Calls Try.prog 72 #[.string s] w fun r w' => r = .returned (.tuple #[.agg #[.string a, .string b, .string c, .string d, .string e, .string f, .bool x], .int .i64 n]) ∧ Below w.heap.size w w' := by
  have q := rfparse s w hs; unfold FParRet at q; rw [h] at q; exact q
theorem fparse_v (s : ByteArray) (a b c d e f : ByteArray) (x : Bool) (n : Int) (w : World) (hs : s.size ≤ maxLen) (h : fpar s = (⟨a, b, c, d, e, f, x⟩, n)) :
    Calls Try.prog 39 #[.string s] w fun r w' => r = .returned (.tuple #[.agg #[.string a, .string b, .string c, .string d, .string e, .string f, .bool x], .int .i64 n]) ∧ Below w.heap.size w w' := by
  have q := fparse s w hs; unfold FParRet at q; rw [h] at q; exact q
set_option maxRecDepth 20000 in
set_option maxHeartbeats 1000000 in
theorem lread (s : ByteArray) (a b c d e f : ByteArray) (x : Bool) (n : Int) (w : World) (hs : s.size ≤ 90000) (h : fpar s = (⟨a, b, c, d, e, f, x⟩, n)) :
    Calls Try.prog 40 #[.string s] w fun r w' => r = .returned (.agg #[.string a, .string b, .string c, .string d, .string e, .string f, .bool x]) ∧ Below w.heap.size w w' := by
  have H := hid h; clear h
  go_enter Try.func40, Try.ntmps40
  go_wp2_with fail
  refine (rfparse_v s a b c d e f x n _ hs H.out).mono ?_
  rintro r w1 ⟨rfl, hw1⟩
  have HOZ : Hid (OZ w1 w.heap.size) := hid (OZ.keep (by simp only [OZ]; exact ⟨by go_simp, by go_simp, by go_simp, by go_simp, by go_simp, by go_simp, by go_simp, by go_simp, by go_simp, by go_simp, by go_simp, by go_simp, by go_simp, by go_simp, by simp⟩) hw1)
  have hB1 : Below w.heap.size w w1 := g_trans (g_alloc g_refl _) hw1
  have hz1 : w.heap.size < w1.heap.size := HOZ.out.2.2.2.2.2.2.2.2.2.2.2.2.2.2
  clear hw1
  obtain ⟨o0, o1, o2, o3, o4, o5, o6, u0, u1, u2, u3, u4, u5, u6, u7⟩ := HOZ.out
  go_wp2
  refine bodyPost_ret (v := .agg #[.string a, .string b, .string c, .string d, .string e, .string f, .bool x]) ?_ rfl ?_
  · simp [results, Try.results40, go_sem, *]
  · refine ⟨rfl, ?_⟩
    repeat (first | (with_reducible refine g_alloc ?_ _) | (with_reducible refine g_set ?_ (Nat.le_refl _) _))
    with_reducible exact hB1
theorem sm_step (k : Nat) (h : k < smallL.length) : smallL.take k ++ [smallL[k]] = smallL.take (k + 1) := (List.take_succ_eq_append_getElem h).symm
theorem new_cells1 (w : World) (o : Obj) (x : Tup) (t : TypeId) : ∀ c v, (enc x)[c]? = some v → ((w.alloc o).alloc (.cells #[.string x.a, .string x.b, .string x.c, .string x.d, .string x.e, .string x.f] t)).cell? ⟨w.heap.size + 1, c, none⟩ = some v := fun c v h => by
  have q := new_cells (w.alloc o) x t c v h
  rwa [show (w.alloc o).heap.size = w.heap.size + 1 by simp] at q
attribute [local go_sem] val
set_option maxRecDepth 20000 in
set_option maxHeartbeats 2000000 in
theorem small_any (w : World) : Calls Try.prog 38 #[] w fun e w' => ∃ v, e = .returned v ∧ Own w' w.heap.size v smallL ∧ Below w.heap.size w w' := by
  go_enter Try.func38, Try.ntmps38
  go_wp2
  go_loopw [1, 3] (fun v i wr => ∃ k : Nat, k ≤ 4 ∧ i = .int .i64 k ∧ Own wr (w.heap.size + 1) v (smallL.take k) ∧ Below (w.alloc (.cells #[.string ⟨#[97, 58, 120, 35, 114, 64, 117, 58, 97]⟩, .string ⟨#[97, 58, 120, 35, 114, 64, 117, 58, 98]⟩, .string ⟨#[97, 58, 121, 35, 115, 64, 117, 58, 97]⟩, .string ⟨#[98, 58, 120, 35, 114, 64, 117, 58, 97]⟩] 9)).heap.size (w.alloc (.cells #[.string ⟨#[97, 58, 120, 35, 114, 64, 117, 58, 97]⟩, .string ⟨#[97, 58, 120, 35, 114, 64, 117, 58, 98]⟩, .string ⟨#[97, 58, 121, 35, 115, 64, 117, 58, 97]⟩, .string ⟨#[98, 58, 120, 35, 114, 64, 117, 58, 97]⟩] 9)) wr) (fun _ i _ => 4 - (intOf i).toNat)
  case atStart => exact ⟨0, by omega, rfl, Own.nil _ _, g_refl⟩
  case round =>
    obtain ⟨k, hk, rfl, hown, hw⟩ := hrel
    have c0 : wr.cell? ⟨w.heap.size, 0, none⟩ = some (.string ⟨#[97, 58, 120, 35, 114, 64, 117, 58, 97]⟩) := (own_cells hw _ (by simp) _).1.trans (by go_simp)
    have c1 : wr.cell? ⟨w.heap.size, 1, none⟩ = some (.string ⟨#[97, 58, 120, 35, 114, 64, 117, 58, 98]⟩) := (own_cells hw _ (by simp) _).1.trans (by go_simp)
    have c2 : wr.cell? ⟨w.heap.size, 2, none⟩ = some (.string ⟨#[97, 58, 121, 35, 115, 64, 117, 58, 97]⟩) := (own_cells hw _ (by simp) _).1.trans (by go_simp)
    have c3 : wr.cell? ⟨w.heap.size, 3, none⟩ = some (.string ⟨#[98, 58, 120, 35, 114, 64, 117, 58, 97]⟩) := (own_cells hw _ (by simp) _).1.trans (by go_simp)
    have HO := hid hown; clear hown
    have hzr : w.heap.size + 1 ≤ wr.heap.size := by have := hw.size; simpa using this
    by_cases hlt : k < 4
    · rcases (show k = 0 ∨ k = 1 ∨ k = 2 ∨ k = 3 by omega) with rfl | rfl | rfl | rfl <;> clear hk hlt
      · go_wp2_with fail
        refine (rtparse_v ⟨#[97, 58, 120, 35, 114, 64, 117, 58, 97]⟩ tA 0 _ (by decide) lrA).mono ?_
        rintro r w1 ⟨rfl, hw1⟩
        simp only [tA]
        have hO1 := HO.out.below hw1
        have hz1 := hw1.size
        clear c0 c1 c2 c3
        go_wp2_with (at_builtin; refine wp_app _ _ rfl rfl (w.heap.size + 1) _ (smallL.take 0) (w1.heap.size + 1) 1 tA rfl rfl ((hO1.below (g_alloc g_refl _)).below (g_alloc g_refl _)) (new_cells1 w1 _ tA _) (by decide) (by simp; omega) ?_)
        intro v5 w5 hown5 hg5 hd5
        have hsz := (g_trans hw hw1).size
        have hw5 : Below (w.alloc (.cells #[.string ⟨#[97, 58, 120, 35, 114, 64, 117, 58, 97]⟩, .string ⟨#[97, 58, 120, 35, 114, 64, 117, 58, 98]⟩, .string ⟨#[97, 58, 121, 35, 115, 64, 117, 58, 97]⟩, .string ⟨#[98, 58, 120, 35, 114, 64, 117, 58, 97]⟩] 9)).heap.size (w.alloc (.cells #[.string ⟨#[97, 58, 120, 35, 114, 64, 117, 58, 97]⟩, .string ⟨#[97, 58, 120, 35, 114, 64, 117, 58, 98]⟩, .string ⟨#[97, 58, 121, 35, 115, 64, 117, 58, 97]⟩, .string ⟨#[98, 58, 120, 35, 114, 64, 117, 58, 97]⟩] 9)) w5 := by
          refine Below.grown (g_alloc (g_alloc (g_trans hw hw1) _) _) hg5 ?_ fun g hg => ?_
          · simp at hsz ⊢; omega
          · have := (hO1.lt g hg).1; simpa using this
        go_wp2
        go_roundw
        case rel => exact ⟨0+1, by omega, by go_num, hown5, hw5⟩
        case measure => simp [intOf]
      · go_wp2_with fail
        refine (rtparse_v ⟨#[97, 58, 120, 35, 114, 64, 117, 58, 98]⟩ tB 0 _ (by decide) lrB).mono ?_
        rintro r w1 ⟨rfl, hw1⟩
        simp only [tB]
        have hO1 := HO.out.below hw1
        have hz1 := hw1.size
        clear c0 c1 c2 c3
        go_wp2_with (at_builtin; refine wp_app _ _ rfl rfl (w.heap.size + 1) _ (smallL.take 1) (w1.heap.size + 1) 1 tB rfl rfl ((hO1.below (g_alloc g_refl _)).below (g_alloc g_refl _)) (new_cells1 w1 _ tB _) (by decide) (by simp; omega) ?_)
        intro v5 w5 hown5 hg5 hd5
        have hsz := (g_trans hw hw1).size
        have hw5 : Below (w.alloc (.cells #[.string ⟨#[97, 58, 120, 35, 114, 64, 117, 58, 97]⟩, .string ⟨#[97, 58, 120, 35, 114, 64, 117, 58, 98]⟩, .string ⟨#[97, 58, 121, 35, 115, 64, 117, 58, 97]⟩, .string ⟨#[98, 58, 120, 35, 114, 64, 117, 58, 97]⟩] 9)).heap.size (w.alloc (.cells #[.string ⟨#[97, 58, 120, 35, 114, 64, 117, 58, 97]⟩, .string ⟨#[97, 58, 120, 35, 114, 64, 117, 58, 98]⟩, .string ⟨#[97, 58, 121, 35, 115, 64, 117, 58, 97]⟩, .string ⟨#[98, 58, 120, 35, 114, 64, 117, 58, 97]⟩] 9)) w5 := by
          refine Below.grown (g_alloc (g_alloc (g_trans hw hw1) _) _) hg5 ?_ fun g hg => ?_
          · simp at hsz ⊢; omega
          · have := (hO1.lt g hg).1; simpa using this
        go_wp2
        go_roundw
        case rel => exact ⟨1+1, by omega, by go_num, hown5, hw5⟩
        case measure => simp [intOf]
      · go_wp2_with fail
        refine (rtparse_v ⟨#[97, 58, 121, 35, 115, 64, 117, 58, 97]⟩ tY 0 _ (by decide) lrY).mono ?_
        rintro r w1 ⟨rfl, hw1⟩
        simp only [tY]
        have hO1 := HO.out.below hw1
        have hz1 := hw1.size
        clear c0 c1 c2 c3
        go_wp2_with (at_builtin; refine wp_app _ _ rfl rfl (w.heap.size + 1) _ (smallL.take 2) (w1.heap.size + 1) 1 tY rfl rfl ((hO1.below (g_alloc g_refl _)).below (g_alloc g_refl _)) (new_cells1 w1 _ tY _) (by decide) (by simp; omega) ?_)
        intro v5 w5 hown5 hg5 hd5
        have hsz := (g_trans hw hw1).size
        have hw5 : Below (w.alloc (.cells #[.string ⟨#[97, 58, 120, 35, 114, 64, 117, 58, 97]⟩, .string ⟨#[97, 58, 120, 35, 114, 64, 117, 58, 98]⟩, .string ⟨#[97, 58, 121, 35, 115, 64, 117, 58, 97]⟩, .string ⟨#[98, 58, 120, 35, 114, 64, 117, 58, 97]⟩] 9)).heap.size (w.alloc (.cells #[.string ⟨#[97, 58, 120, 35, 114, 64, 117, 58, 97]⟩, .string ⟨#[97, 58, 120, 35, 114, 64, 117, 58, 98]⟩, .string ⟨#[97, 58, 121, 35, 115, 64, 117, 58, 97]⟩, .string ⟨#[98, 58, 120, 35, 114, 64, 117, 58, 97]⟩] 9)) w5 := by
          refine Below.grown (g_alloc (g_alloc (g_trans hw hw1) _) _) hg5 ?_ fun g hg => ?_
          · simp at hsz ⊢; omega
          · have := (hO1.lt g hg).1; simpa using this
        go_wp2
        go_roundw
        case rel => exact ⟨2+1, by omega, by go_num, hown5, hw5⟩
        case measure => simp [intOf]
      · go_wp2_with fail
        refine (rtparse_v ⟨#[98, 58, 120, 35, 114, 64, 117, 58, 97]⟩ tC 0 _ (by decide) lrC).mono ?_
        rintro r w1 ⟨rfl, hw1⟩
        simp only [tC]
        have hO1 := HO.out.below hw1
        have hz1 := hw1.size
        clear c0 c1 c2 c3
        go_wp2_with (at_builtin; refine wp_app _ _ rfl rfl (w.heap.size + 1) _ (smallL.take 3) (w1.heap.size + 1) 1 tC rfl rfl ((hO1.below (g_alloc g_refl _)).below (g_alloc g_refl _)) (new_cells1 w1 _ tC _) (by decide) (by simp; omega) ?_)
        intro v5 w5 hown5 hg5 hd5
        have hsz := (g_trans hw hw1).size
        have hw5 : Below (w.alloc (.cells #[.string ⟨#[97, 58, 120, 35, 114, 64, 117, 58, 97]⟩, .string ⟨#[97, 58, 120, 35, 114, 64, 117, 58, 98]⟩, .string ⟨#[97, 58, 121, 35, 115, 64, 117, 58, 97]⟩, .string ⟨#[98, 58, 120, 35, 114, 64, 117, 58, 97]⟩] 9)).heap.size (w.alloc (.cells #[.string ⟨#[97, 58, 120, 35, 114, 64, 117, 58, 97]⟩, .string ⟨#[97, 58, 120, 35, 114, 64, 117, 58, 98]⟩, .string ⟨#[97, 58, 121, 35, 115, 64, 117, 58, 97]⟩, .string ⟨#[98, 58, 120, 35, 114, 64, 117, 58, 97]⟩] 9)) w5 := by
          refine Below.grown (g_alloc (g_alloc (g_trans hw hw1) _) _) hg5 ?_ fun g hg => ?_
          · simp at hsz ⊢; omega
          · have := (hO1.lt g hg).1; simpa using this
        go_wp2
        go_roundw
        case rel => exact ⟨3+1, by omega, by go_num, hown5, hw5⟩
        case measure => simp [intOf]
    · obtain rfl : k = 4 := by omega
      have hO := HO.out
      go_wp2
      go_ret
      exact ⟨_, rfl, hO.mono (Nat.le_succ _), g_trans (g_alloc g_refl _) hw⟩
end Go.Proofs.Ytgfgfggoofjeeaa
namespace Go.Proofs.Ytgfgfggoofjeeaa
open Go.RowKit Go.Sort

def fX : Fil := ⟨⟨#[97]⟩, ⟨#[120]⟩, ⟨#[]⟩, ⟨#[]⟩, ⟨#[]⟩, ⟨#[]⟩, false⟩
theorem p_fX : fpar ⟨#[97, 58, 120, 35, 42]⟩ = (⟨⟨#[97]⟩, ⟨#[120]⟩, ⟨#[]⟩, ⟨#[]⟩, ⟨#[]⟩, ⟨#[]⟩, false⟩, 0) := by decide +kernel
theorem c_fX : fchk fX = 0 := by decide +kernel
theorem s_fX : FitF fX := ⟨by decide, by decide, by decide, by decide, by decide, by decide⟩
def fY : Fil := ⟨⟨#[]⟩, ⟨#[120]⟩, ⟨#[114]⟩, ⟨#[117]⟩, ⟨#[97]⟩, ⟨#[]⟩, true⟩
theorem p_fY : fpar ⟨#[42, 58, 120, 35, 114, 64, 117, 58, 97]⟩ = (⟨⟨#[]⟩, ⟨#[120]⟩, ⟨#[114]⟩, ⟨#[117]⟩, ⟨#[97]⟩, ⟨#[]⟩, true⟩, 0) := by decide +kernel
theorem c_fY : fchk fY = 0 := by decide +kernel
theorem s_fY : FitF fY := ⟨by decide, by decide, by decide, by decide, by decide, by decide⟩
def f2 : Fil := ⟨⟨#[97]⟩, ⟨#[120, 50]⟩, ⟨#[]⟩, ⟨#[]⟩, ⟨#[]⟩, ⟨#[]⟩, false⟩
theorem p_f2 : fpar ⟨#[97, 58, 120, 50, 35, 42]⟩ = (⟨⟨#[97]⟩, ⟨#[120, 50]⟩, ⟨#[]⟩, ⟨#[]⟩, ⟨#[]⟩, ⟨#[]⟩, false⟩, 0) := by decide +kernel
theorem c_f2 : fchk f2 = 0 := by decide +kernel
theorem s_f2 : FitF f2 := ⟨by decide, by decide, by decide, by decide, by decide, by decide⟩
def f3 : Fil := ⟨⟨#[]⟩, ⟨#[121]⟩, ⟨#[]⟩, ⟨#[]⟩, ⟨#[]⟩, ⟨#[]⟩, false⟩
theorem p_f3 : fpar ⟨#[42, 58, 121, 35, 42]⟩ = (⟨⟨#[]⟩, ⟨#[121]⟩, ⟨#[]⟩, ⟨#[]⟩, ⟨#[]⟩, ⟨#[]⟩, false⟩, 0) := by decide +kernel
theorem c_f3 : fchk f3 = 0 := by decide +kernel
theorem s_f3 : FitF f3 := ⟨by decide, by decide, by decide, by decide, by decide, by decide⟩
def f4 : Fil := ⟨⟨#[97]⟩, ⟨#[]⟩, ⟨#[114]⟩, ⟨#[117]⟩, ⟨#[97]⟩, ⟨#[]⟩, true⟩
theorem p_f4 : fpar ⟨#[97, 58, 42, 35, 114, 64, 117, 58, 97]⟩ = (⟨⟨#[97]⟩, ⟨#[]⟩, ⟨#[114]⟩, ⟨#[117]⟩, ⟨#[97]⟩, ⟨#[]⟩, true⟩, 0) := by decide +kernel
theorem c_f4 : fchk f4 = 0 := by decide +kernel
theorem s_f4 : FitF f4 := ⟨by decide, by decide, by decide, by decide, by decide, by decide⟩
def f5 : Fil := ⟨⟨#[97]⟩, ⟨#[]⟩, ⟨#[114]⟩, ⟨#[]⟩, ⟨#[]⟩, ⟨#[]⟩, false⟩
theorem p_f5 : fpar ⟨#[97, 58, 42, 35, 114]⟩ = (⟨⟨#[97]⟩, ⟨#[]⟩, ⟨#[114]⟩, ⟨#[]⟩, ⟨#[]⟩, ⟨#[]⟩, false⟩, 0) := by decide +kernel
theorem c_f5 : fchk f5 = 0 := by decide +kernel
theorem s_f5 : FitF f5 := ⟨by decide, by decide, by decide, by decide, by decide, by decide⟩
def f6 : Fil := ⟨⟨#[]⟩, ⟨#[120]⟩, ⟨#[]⟩, ⟨#[117]⟩, ⟨#[97]⟩, ⟨#[]⟩, true⟩
theorem p_f6 : fpar ⟨#[42, 58, 120, 35, 42, 64, 117, 58, 97]⟩ = (⟨⟨#[]⟩, ⟨#[120]⟩, ⟨#[]⟩, ⟨#[117]⟩, ⟨#[97]⟩, ⟨#[]⟩, true⟩, 0) := by decide +kernel
theorem c_f6 : fchk f6 = 0 := by decide +kernel
theorem s_f6 : FitF f6 := ⟨by decide, by decide, by decide, by decide, by decide, by decide⟩
def f7 : Fil := ⟨⟨#[98]⟩, ⟨#[]⟩, ⟨#[]⟩, ⟨#[]⟩, ⟨#[]⟩, ⟨#[]⟩, false⟩
theorem p_f7 : fpar ⟨#[98, 58, 42, 35, 42]⟩ = (⟨⟨#[98]⟩, ⟨#[]⟩, ⟨#[]⟩, ⟨#[]⟩, ⟨#[]⟩, ⟨#[]⟩, false⟩, 0) := by decide +kernel
theorem c_f7 : fchk f7 = 0 := by decide +kernel
theorem s_f7 : FitF f7 := ⟨by decide, by decide, by decide, by decide, by decide, by decide⟩
theorem pe0 : fpar ⟨#[97, 58, 120]⟩ = (⟨⟨#[]⟩, ⟨#[]⟩, ⟨#[]⟩, ⟨#[]⟩, ⟨#[]⟩, ⟨#[]⟩, false⟩, 5) := by decide +kernel
theorem pe1 : fpar ⟨#[97, 58, 42, 35, 65]⟩ = (⟨⟨#[]⟩, ⟨#[]⟩, ⟨#[]⟩, ⟨#[]⟩, ⟨#[]⟩, ⟨#[]⟩, false⟩, 6) := by decide +kernel
theorem pe2 : fpar ⟨#[97, 58, 120, 35, 114, 64, 117]⟩ = (⟨⟨#[]⟩, ⟨#[]⟩, ⟨#[]⟩, ⟨#[]⟩, ⟨#[]⟩, ⟨#[]⟩, false⟩, 5) := by decide +kernel
def fB : Fil := ⟨⟨#[97]⟩, ⟨#[120]⟩, ⟨#[114]⟩, ⟨#[117]⟩, ⟨#[97]⟩, ⟨#[]⟩, true⟩
theorem bo1 : bothR f5 f6 = (fB, true, 0) := by decide +kernel
theorem bo2 : bothR f5 f7 = (zF, false, 0) := by decide +kernel
theorem sp1 : lo fX smallL = 0 ∧ hi fX smallL = 2 := by decide +kernel
theorem sp2 : lo f2 smallL = 2 ∧ hi f2 smallL = 2 := by decide +kernel
theorem sp3 : lo f3 smallL = 0 ∧ hi f3 smallL = 4 := by decide +kernel
theorem fl1 : smallL.filter (takes fY) = [tA, tC] := by decide +kernel
theorem pr1' : fpre fX = 2 := by decide +kernel
theorem pr2' : fpre f4 = 1 := by decide +kernel
theorem tx1 : ftxt fB = ⟨#[97, 58, 120, 35, 114, 64, 117, 58, 97]⟩ := by decide +kernel
theorem smB : SmallF fB := ⟨by decide, by decide, by decide, by decide, by decide, by decide⟩
theorem sa2 : sameI [tA, tC] [tA, tC] = 1 := by decide +kernel
theorem lv_span1 (A : Option Addr) (c : Nat) (w : World) (hR : Row w A smallL) :
    Calls Try.prog 13 #[.slice A 4 c, .agg #[.string ⟨#[97]⟩, .string ⟨#[120]⟩, .string ⟨#[]⟩, .string ⟨#[]⟩, .string ⟨#[]⟩, .string ⟨#[]⟩, .bool false]] w fun r w' => r = .returned (.tuple #[.int .i64 0, .int .i64 2, .int .i64 0]) ∧ Below w.heap.size w w' := by
  refine (span_ok fX A smallL c w s_fX hR (by decide) c_fX sm_isB).mono fun r w' h => ⟨?_, h.2⟩
  rw [h.1, sp1.1, sp1.2]; rfl
theorem lv_span2 (A : Option Addr) (c : Nat) (w : World) (hR : Row w A smallL) :
    Calls Try.prog 13 #[.slice A 4 c, .agg #[.string ⟨#[97]⟩, .string ⟨#[120, 50]⟩, .string ⟨#[]⟩, .string ⟨#[]⟩, .string ⟨#[]⟩, .string ⟨#[]⟩, .bool false]] w fun r w' => r = .returned (.tuple #[.int .i64 2, .int .i64 2, .int .i64 0]) ∧ Below w.heap.size w w' := by
  refine (span_ok f2 A smallL c w s_f2 hR (by decide) c_f2 sm_isB).mono fun r w' h => ⟨?_, h.2⟩
  rw [h.1, sp2.1, sp2.2]; rfl
theorem lv_span3 (A : Option Addr) (c : Nat) (w : World) (hR : Row w A smallL) :
    Calls Try.prog 13 #[.slice A 4 c, .agg #[.string ⟨#[]⟩, .string ⟨#[121]⟩, .string ⟨#[]⟩, .string ⟨#[]⟩, .string ⟨#[]⟩, .string ⟨#[]⟩, .bool false]] w fun r w' => r = .returned (.tuple #[.int .i64 0, .int .i64 4, .int .i64 0]) ∧ Below w.heap.size w w' := by
  refine (span_ok f3 A smallL c w s_f3 hR (by decide) c_f3 sm_isB).mono fun r w' h => ⟨?_, h.2⟩
  rw [h.1, sp3.1, sp3.2]; rfl
theorem lv_sel (g c : Nat) (w : World) (hR : Row w (some ⟨g, 0, none⟩) smallL) (hc : 4 ≤ c) :
    Calls Try.prog 14 #[.slice (some ⟨g, 0, none⟩) 4 c, .agg #[.string ⟨#[]⟩, .string ⟨#[120]⟩, .string ⟨#[114]⟩, .string ⟨#[117]⟩, .string ⟨#[97]⟩, .string ⟨#[]⟩, .bool true]] w fun r w' => ∃ g2, r = .returned (.tuple #[.slice (some ⟨g2, 0, none⟩) 2 2, .int .i64 0]) ∧ Row w' (some ⟨g2, 0, none⟩) [tA, tC] ∧ Below w.heap.size w w' := by
  refine (select_any fY (some ⟨g, 0, none⟩) smallL c w (.inr ⟨g, 0, rfl⟩) s_fY hR hc (by decide) c_fY sm_isB).mono fun r w' h => ?_
  obtain ⟨A, h1, h2, h3, h4⟩ := h
  rw [fl1] at h1 h2 h3
  rcases h3 with ⟨_, h3⟩ | ⟨g2, rfl⟩
  · cases h3
  · exact ⟨g2, h1, h2, h4⟩
theorem lv_both1 (w : World) : Calls Try.prog 8 #[.agg #[.string ⟨#[97]⟩, .string ⟨#[]⟩, .string ⟨#[114]⟩, .string ⟨#[]⟩, .string ⟨#[]⟩, .string ⟨#[]⟩, .bool false], .agg #[.string ⟨#[]⟩, .string ⟨#[120]⟩, .string ⟨#[]⟩, .string ⟨#[117]⟩, .string ⟨#[97]⟩, .string ⟨#[]⟩, .bool true]] w fun r w' => r = .returned (.tuple #[.agg #[.string ⟨#[97]⟩, .string ⟨#[120]⟩, .string ⟨#[114]⟩, .string ⟨#[117]⟩, .string ⟨#[97]⟩, .string ⟨#[]⟩, .bool true], .bool true, .int .i64 0]) ∧ Below w.heap.size w w' := by
  refine (both_any f5 f6 w s_f5 s_f6).mono fun r w' h => ⟨?_, h.2⟩
  rw [h.1, bo1]; rfl
theorem lv_both2 (w : World) : Calls Try.prog 8 #[.agg #[.string ⟨#[97]⟩, .string ⟨#[]⟩, .string ⟨#[114]⟩, .string ⟨#[]⟩, .string ⟨#[]⟩, .string ⟨#[]⟩, .bool false], .agg #[.string ⟨#[98]⟩, .string ⟨#[]⟩, .string ⟨#[]⟩, .string ⟨#[]⟩, .string ⟨#[]⟩, .string ⟨#[]⟩, .bool false]] w fun r w' => r = .returned (.tuple #[.agg #[.string ⟨#[]⟩, .string ⟨#[]⟩, .string ⟨#[]⟩, .string ⟨#[]⟩, .string ⟨#[]⟩, .string ⟨#[]⟩, .bool false], .bool false, .int .i64 0]) ∧ Below w.heap.size w w' := by
  refine (both_any f5 f7 w s_f5 s_f7).mono fun r w' h => ⟨?_, h.2⟩
  rw [h.1, bo2]; rfl
theorem lv_pre1 (w : World) : Calls Try.prog 15 #[.agg #[.string ⟨#[97]⟩, .string ⟨#[120]⟩, .string ⟨#[]⟩, .string ⟨#[]⟩, .string ⟨#[]⟩, .string ⟨#[]⟩, .bool false]] w fun r w' => r = .returned (.int .i64 2) ∧ Below w.heap.size w w' := by
  refine (fprefix fX w).mono fun r w' h => ⟨?_, h.2⟩
  rw [h.1, pr1']
theorem lv_pre2 (w : World) : Calls Try.prog 15 #[.agg #[.string ⟨#[97]⟩, .string ⟨#[]⟩, .string ⟨#[114]⟩, .string ⟨#[117]⟩, .string ⟨#[97]⟩, .string ⟨#[]⟩, .bool true]] w fun r w' => r = .returned (.int .i64 1) ∧ Below w.heap.size w w' := by
  refine (fprefix f4 w).mono fun r w' h => ⟨?_, h.2⟩
  rw [h.1, pr2']
theorem lv_same2 (A B : Option Addr) (w : World) (hR : Row w A [tA, tC]) (hS : Row w B [tA, tC]) :
    Calls Try.prog 41 #[.slice A 2 2, .slice B 2 2] w fun e w' => e = .returned (.int .i64 1) ∧ Below w.heap.size w w' := by
  refine (rsame A B [tA, tC] [tA, tC] 2 2 w hR hS (by decide)).mono fun e w' h => ⟨?_, h.2.toBelow⟩
  rw [h.1, sa2]
theorem lv_txt (w : World) : Calls Try.prog 42 #[.agg #[.string ⟨#[97]⟩, .string ⟨#[120]⟩, .string ⟨#[114]⟩, .string ⟨#[117]⟩, .string ⟨#[97]⟩, .string ⟨#[]⟩, .bool true]] w fun r w' => r = .returned (.string ⟨#[97, 58, 120, 35, 114, 64, 117, 58, 97]⟩) ∧ Below w.heap.size w w' := by
  refine (ftext fB w smB).mono fun r w' h => ⟨?_, h.2⟩
  rw [h.1, tx1]
theorem lk_keep {p g g2 : Nat} {W W' : World} (hb : Below W.heap.size W W') (h : W.cell? ⟨p, 0, none⟩ = some (.string ⟨#[97]⟩) ∧ W.cell? ⟨p, 1, none⟩ = some (.string ⟨#[120]⟩) ∧ W.cell? ⟨p, 2, none⟩ = some (.string ⟨#[]⟩) ∧ W.cell? ⟨p, 3, none⟩ = some (.string ⟨#[]⟩) ∧ W.cell? ⟨p, 4, none⟩ = some (.string ⟨#[]⟩) ∧ W.cell? ⟨p, 5, none⟩ = some (.string ⟨#[]⟩) ∧ W.cell? ⟨p, 6, none⟩ = some (.bool false) ∧ W.cell? ⟨g, 0, none⟩ = some (.string ⟨#[97]⟩) ∧ W.cell? ⟨g, 1, none⟩ = some (.string ⟨#[120]⟩) ∧ W.cell? ⟨g, 2, none⟩ = some (.string ⟨#[114]⟩) ∧ W.cell? ⟨g, 3, none⟩ = some (.string ⟨#[117]⟩) ∧ W.cell? ⟨g, 4, none⟩ = some (.string ⟨#[97]⟩) ∧ W.cell? ⟨g, 5, none⟩ = some (.string ⟨#[]⟩) ∧ W.cell? ⟨g, 18, none⟩ = some (.string ⟨#[98]⟩) ∧ W.cell? ⟨g, 19, none⟩ = some (.string ⟨#[120]⟩) ∧ W.cell? ⟨g, 20, none⟩ = some (.string ⟨#[114]⟩) ∧ W.cell? ⟨g, 21, none⟩ = some (.string ⟨#[117]⟩) ∧ W.cell? ⟨g, 22, none⟩ = some (.string ⟨#[97]⟩) ∧ W.cell? ⟨g, 23, none⟩ = some (.string ⟨#[]⟩) ∧ Row W (some ⟨g2, 0, none⟩) [tA, tC] ∧ p < W.heap.size ∧ g < W.heap.size) : W'.cell? ⟨p, 0, none⟩ = some (.string ⟨#[97]⟩) ∧ W'.cell? ⟨p, 1, none⟩ = some (.string ⟨#[120]⟩) ∧ W'.cell? ⟨p, 2, none⟩ = some (.string ⟨#[]⟩) ∧ W'.cell? ⟨p, 3, none⟩ = some (.string ⟨#[]⟩) ∧ W'.cell? ⟨p, 4, none⟩ = some (.string ⟨#[]⟩) ∧ W'.cell? ⟨p, 5, none⟩ = some (.string ⟨#[]⟩) ∧ W'.cell? ⟨p, 6, none⟩ = some (.bool false) ∧ W'.cell? ⟨g, 0, none⟩ = some (.string ⟨#[97]⟩) ∧ W'.cell? ⟨g, 1, none⟩ = some (.string ⟨#[120]⟩) ∧ W'.cell? ⟨g, 2, none⟩ = some (.string ⟨#[114]⟩) ∧ W'.cell? ⟨g, 3, none⟩ = some (.string ⟨#[117]⟩) ∧ W'.cell? ⟨g, 4, none⟩ = some (.string ⟨#[97]⟩) ∧ W'.cell? ⟨g, 5, none⟩ = some (.string ⟨#[]⟩) ∧ W'.cell? ⟨g, 18, none⟩ = some (.string ⟨#[98]⟩) ∧ W'.cell? ⟨g, 19, none⟩ = some (.string ⟨#[120]⟩) ∧ W'.cell? ⟨g, 20, none⟩ = some (.string ⟨#[114]⟩) ∧ W'.cell? ⟨g, 21, none⟩ = some (.string ⟨#[117]⟩) ∧ W'.cell? ⟨g, 22, none⟩ = some (.string ⟨#[97]⟩) ∧ W'.cell? ⟨g, 23, none⟩ = some (.string ⟨#[]⟩) ∧ Row W' (some ⟨g2, 0, none⟩) [tA, tC] ∧ p < W'.heap.size ∧ g < W'.heap.size := by
  obtain ⟨a0, a1, a2, a3, a4, a5, a6, b0, b1, b2, b3, b4, b5, c0, c1, c2, c3, c4, c5, r, s1, s2⟩ := h
  have o := own_cells hb p s1
  have k := own_cells hb g s2
  exact ⟨(o _).1.trans a0, (o _).1.trans a1, (o _).1.trans a2, (o _).1.trans a3, (o _).1.trans a4, (o _).1.trans a5, (o _).1.trans a6, (k _).1.trans b0, (k _).1.trans b1, (k _).1.trans b2, (k _).1.trans b3, (k _).1.trans b4, (k _).1.trans b5, (k _).1.trans c0, (k _).1.trans c1, (k _).1.trans c2, (k _).1.trans c3, (k _).1.trans c4, (k _).1.trans c5, r.below hb, Nat.lt_of_lt_of_le s1 hb.size, Nat.lt_of_lt_of_le s2 hb.size⟩
theorem lk_row {p g g2 : Nat} {W : World} (h : W.cell? ⟨p, 0, none⟩ = some (.string ⟨#[97]⟩) ∧ W.cell? ⟨p, 1, none⟩ = some (.string ⟨#[120]⟩) ∧ W.cell? ⟨p, 2, none⟩ = some (.string ⟨#[]⟩) ∧ W.cell? ⟨p, 3, none⟩ = some (.string ⟨#[]⟩) ∧ W.cell? ⟨p, 4, none⟩ = some (.string ⟨#[]⟩) ∧ W.cell? ⟨p, 5, none⟩ = some (.string ⟨#[]⟩) ∧ W.cell? ⟨p, 6, none⟩ = some (.bool false) ∧ W.cell? ⟨g, 0, none⟩ = some (.string ⟨#[97]⟩) ∧ W.cell? ⟨g, 1, none⟩ = some (.string ⟨#[120]⟩) ∧ W.cell? ⟨g, 2, none⟩ = some (.string ⟨#[114]⟩) ∧ W.cell? ⟨g, 3, none⟩ = some (.string ⟨#[117]⟩) ∧ W.cell? ⟨g, 4, none⟩ = some (.string ⟨#[97]⟩) ∧ W.cell? ⟨g, 5, none⟩ = some (.string ⟨#[]⟩) ∧ W.cell? ⟨g, 18, none⟩ = some (.string ⟨#[98]⟩) ∧ W.cell? ⟨g, 19, none⟩ = some (.string ⟨#[120]⟩) ∧ W.cell? ⟨g, 20, none⟩ = some (.string ⟨#[114]⟩) ∧ W.cell? ⟨g, 21, none⟩ = some (.string ⟨#[117]⟩) ∧ W.cell? ⟨g, 22, none⟩ = some (.string ⟨#[97]⟩) ∧ W.cell? ⟨g, 23, none⟩ = some (.string ⟨#[]⟩) ∧ Row W (some ⟨g2, 0, none⟩) [tA, tC] ∧ p < W.heap.size ∧ g < W.heap.size) : Row W (some ⟨g2, 0, none⟩) [tA, tC] := h.2.2.2.2.2.2.2.2.2.2.2.2.2.2.2.2.2.2.2.1
theorem sm_cells {w : World} {g : Nat} (h : Row w (some ⟨g, 0, none⟩) smallL) : w.cell? ⟨g, 0, none⟩ = some (.string ⟨#[97]⟩) ∧ w.cell? ⟨g, 1, none⟩ = some (.string ⟨#[120]⟩) ∧ w.cell? ⟨g, 2, none⟩ = some (.string ⟨#[114]⟩) ∧ w.cell? ⟨g, 3, none⟩ = some (.string ⟨#[117]⟩) ∧ w.cell? ⟨g, 4, none⟩ = some (.string ⟨#[97]⟩) ∧ w.cell? ⟨g, 5, none⟩ = some (.string ⟨#[]⟩) ∧ w.cell? ⟨g, 18, none⟩ = some (.string ⟨#[98]⟩) ∧ w.cell? ⟨g, 19, none⟩ = some (.string ⟨#[120]⟩) ∧ w.cell? ⟨g, 20, none⟩ = some (.string ⟨#[114]⟩) ∧ w.cell? ⟨g, 21, none⟩ = some (.string ⟨#[117]⟩) ∧ w.cell? ⟨g, 22, none⟩ = some (.string ⟨#[97]⟩) ∧ w.cell? ⟨g, 23, none⟩ = some (.string ⟨#[]⟩) ∧ g < w.heap.size := by
  obtain ⟨b, o, e, hL⟩ := h (by decide)
  injection e with e; injection e with e1 e2; subst e1; subst e2
  have q0 := (hL.six (k := 0) (by decide)).at0
  have q3 := (hL.six (k := 3) (by decide)).at0
  obtain ⟨x0, x1, x2, x3, x4, x5⟩ := q0
  obtain ⟨y0, y1, y2, y3, y4, y5⟩ := q3
  exact ⟨x0, x1, x2, x3, x4, x5, y0, y1, y2, y3, y4, y5, hL.1⟩

set_option maxRecDepth 100000 in
set_option maxHeartbeats 2000000 in
theorem flives (w : World) : Calls Try.prog 11 #[] w fun e w' => e = .returned (.bool true) ∧ Below w.heap.size w w' := by
  go_enter Try.func11, Try.ntmps11
  go_wp2_with fail
  refine (small_any _).mono ?_
  rintro r w1 ⟨v, rfl, hown, hw1⟩
  rcases hown.form with ⟨_, hl⟩ | ⟨g, cap, rfl, hcap, hR1⟩
  · cases hl
  have hcap4 : 4 ≤ cap := hcap
  have h4 : smallL.length = 4 := rfl
  rw [h4]
  clear h4
  have HR1 := hid hR1
  clear hown hR1 hcap
  go_wp2_with fail
  refine (fparse_v ⟨#[97, 58, 120, 35, 42]⟩ ⟨#[97]⟩ ⟨#[120]⟩ ⟨#[]⟩ ⟨#[]⟩ ⟨#[]⟩ ⟨#[]⟩ false 0 _ (by decide) p_fX).mono ?_
  rintro r w2 ⟨rfl, hw2⟩
  have HR2 := hid ((HR1.out.below hw2).below (g_alloc g_refl (.cells #[.string ⟨#[97]⟩, .string ⟨#[120]⟩, .string ⟨#[]⟩, .string ⟨#[]⟩, .string ⟨#[]⟩, .string ⟨#[]⟩, .bool false] 35)))
  have HP2 : Hid (FB (w2.alloc (.cells #[.string ⟨#[97]⟩, .string ⟨#[120]⟩, .string ⟨#[]⟩, .string ⟨#[]⟩, .string ⟨#[]⟩, .string ⟨#[]⟩, .bool false] 35)) w2.heap.size fX) := hid (by simp only [FB, fX]; exact ⟨by go_simp, by go_simp, by go_simp, by go_simp, by go_simp, by go_simp, by go_simp, by simp⟩)
  have hB2 := g_trans hw1 hw2
  clear HR1 hw1 hw2
  go_wp2_with fail
  refine (lv_span1 _ cap _ HR2.out).mono ?_
  rintro r w3 ⟨rfl, hw3⟩
  have HR3 := hid (HR2.out.below hw3)
  have HP3 := hid (HP2.out.keep hw3)
  have hB3 := g_trans (g_alloc hB2 _) hw3
  clear HR2 HP2 hw3 hB2
  go_wp2_with fail
  refine (lread ⟨#[42, 58, 120, 35, 114, 64, 117, 58, 97]⟩ ⟨#[]⟩ ⟨#[120]⟩ ⟨#[114]⟩ ⟨#[117]⟩ ⟨#[97]⟩ ⟨#[]⟩ true 0 _ (by decide) p_fY).mono ?_
  rintro r w4 ⟨rfl, hw4⟩
  go_wp2_with fail
  refine (lv_sel g cap _ (HR3.out.below hw4) hcap4).mono ?_
  rintro r w5 ⟨g2, rfl, hS5, hw5⟩
  have HS5 := hid hS5
  have HR5 := hid ((HR3.out.below hw4).below hw5)
  have HP5 := hid ((HP3.out.keep hw4).keep hw5)
  have hB5 := g_trans (g_trans hB3 hw4) hw5
  clear HR3 HP3 hS5 hw4 hw5 hB3
  go_wp2_with fail
  refine (lread ⟨#[97, 58, 120, 50, 35, 42]⟩ ⟨#[97]⟩ ⟨#[120, 50]⟩ ⟨#[]⟩ ⟨#[]⟩ ⟨#[]⟩ ⟨#[]⟩ false 0 _ (by decide) p_f2).mono ?_
  rintro r w6 ⟨rfl, hw6⟩
  go_wp2_with fail
  refine (lv_span2 _ cap _ (HR5.out.below hw6)).mono ?_
  rintro r w7 ⟨rfl, hw7⟩
  have hA7 := g_trans hw6 hw7
  have HR7 := hid (HR5.out.below hA7)
  have HS7 := hid (HS5.out.below hA7)
  have HP7 := hid (HP5.out.keep hA7)
  have hB7 := g_trans hB5 hA7
  clear HR5 HP5 HS5 hw6 hw7 hB5 hA7
  go_wp2_with fail
  refine (lread ⟨#[42, 58, 121, 35, 42]⟩ ⟨#[]⟩ ⟨#[121]⟩ ⟨#[]⟩ ⟨#[]⟩ ⟨#[]⟩ ⟨#[]⟩ false 0 _ (by decide) p_f3).mono ?_
  rintro r w8 ⟨rfl, hw8⟩
  go_wp2_with fail
  refine (lv_span3 _ cap _ (HR7.out.below hw8)).mono ?_
  rintro r w9 ⟨rfl, hw9⟩
  have hA9 := g_trans hw8 hw9
  have HR9 := hid (HR7.out.below hA9)
  have HS9 := hid (HS7.out.below hA9)
  have HP9 := hid (HP7.out.keep hA9)
  have hB9 := g_trans hB7 hA9
  clear HR7 HP7 HS7 hw8 hw9 hB7 hA9
  generalize w2.heap.size = p at *
  obtain ⟨b0, b1, b2, b3, b4, b5, c0, c1, c2, c3, c4, c5, s2⟩ := sm_cells HR9.out
  have hfx := HP9.out
  simp only [FB, fX] at hfx
  obtain ⟨a0, a1, a2, a3, a4, a5, a6, s1⟩ := hfx
  have hS : w9.cell? ⟨p, 0, none⟩ = some (.string ⟨#[97]⟩) ∧ w9.cell? ⟨p, 1, none⟩ = some (.string ⟨#[120]⟩) ∧ w9.cell? ⟨p, 2, none⟩ = some (.string ⟨#[]⟩) ∧ w9.cell? ⟨p, 3, none⟩ = some (.string ⟨#[]⟩) ∧ w9.cell? ⟨p, 4, none⟩ = some (.string ⟨#[]⟩) ∧ w9.cell? ⟨p, 5, none⟩ = some (.string ⟨#[]⟩) ∧ w9.cell? ⟨p, 6, none⟩ = some (.bool false) ∧ w9.cell? ⟨g, 0, none⟩ = some (.string ⟨#[97]⟩) ∧ w9.cell? ⟨g, 1, none⟩ = some (.string ⟨#[120]⟩) ∧ w9.cell? ⟨g, 2, none⟩ = some (.string ⟨#[114]⟩) ∧ w9.cell? ⟨g, 3, none⟩ = some (.string ⟨#[117]⟩) ∧ w9.cell? ⟨g, 4, none⟩ = some (.string ⟨#[97]⟩) ∧ w9.cell? ⟨g, 5, none⟩ = some (.string ⟨#[]⟩) ∧ w9.cell? ⟨g, 18, none⟩ = some (.string ⟨#[98]⟩) ∧ w9.cell? ⟨g, 19, none⟩ = some (.string ⟨#[120]⟩) ∧ w9.cell? ⟨g, 20, none⟩ = some (.string ⟨#[114]⟩) ∧ w9.cell? ⟨g, 21, none⟩ = some (.string ⟨#[117]⟩) ∧ w9.cell? ⟨g, 22, none⟩ = some (.string ⟨#[97]⟩) ∧ w9.cell? ⟨g, 23, none⟩ = some (.string ⟨#[]⟩) ∧ Row w9 (some ⟨g2, 0, none⟩) [tA, tC] ∧ p < w9.heap.size ∧ g < w9.heap.size := ⟨a0, a1, a2, a3, a4, a5, a6, b0, b1, b2, b3, b4, b5, c0, c1, c2, c3, c4, c5, HS9.out, s1, s2⟩
  clear a0 a1 a2 a3 a4 a5 a6 b0 b1 b2 b3 b4 b5 c0 c1 c2 c3 c4 c5 s1 s2 HR9 HP9 HS9
  go_upto_region 7 with fail
  go_cut [114] (fun s wx => s = .bool false ∧ Below w.heap.size w wx)
  case first =>
    go_region_held3 (fun w' => w'.cell? ⟨p, 0, none⟩ = some (.string ⟨#[97]⟩) ∧ w'.cell? ⟨p, 1, none⟩ = some (.string ⟨#[120]⟩) ∧ w'.cell? ⟨p, 2, none⟩ = some (.string ⟨#[]⟩) ∧ w'.cell? ⟨p, 3, none⟩ = some (.string ⟨#[]⟩) ∧ w'.cell? ⟨p, 4, none⟩ = some (.string ⟨#[]⟩) ∧ w'.cell? ⟨p, 5, none⟩ = some (.string ⟨#[]⟩) ∧ w'.cell? ⟨p, 6, none⟩ = some (.bool false) ∧ w'.cell? ⟨g, 0, none⟩ = some (.string ⟨#[97]⟩) ∧ w'.cell? ⟨g, 1, none⟩ = some (.string ⟨#[120]⟩) ∧ w'.cell? ⟨g, 2, none⟩ = some (.string ⟨#[114]⟩) ∧ w'.cell? ⟨g, 3, none⟩ = some (.string ⟨#[117]⟩) ∧ w'.cell? ⟨g, 4, none⟩ = some (.string ⟨#[97]⟩) ∧ w'.cell? ⟨g, 5, none⟩ = some (.string ⟨#[]⟩) ∧ w'.cell? ⟨g, 18, none⟩ = some (.string ⟨#[98]⟩) ∧ w'.cell? ⟨g, 19, none⟩ = some (.string ⟨#[120]⟩) ∧ w'.cell? ⟨g, 20, none⟩ = some (.string ⟨#[114]⟩) ∧ w'.cell? ⟨g, 21, none⟩ = some (.string ⟨#[117]⟩) ∧ w'.cell? ⟨g, 22, none⟩ = some (.string ⟨#[97]⟩) ∧ w'.cell? ⟨g, 23, none⟩ = some (.string ⟨#[]⟩) ∧ Row w' (some ⟨g2, 0, none⟩) [tA, tC] ∧ p < w'.heap.size ∧ g < w'.heap.size) (first | assumption | exact lk_keep (by assumption) (by assumption) | exact lk_keep (g_alloc g_refl _) (by assumption) | exact lk_keep (g_drew (g_alloc g_refl _)) (by assumption) | exact lk_keep (g_drew g_refl) (by assumption))
      (first | (go_at_call 15; with_reducible refine (lv_pre1 _).mono ?_; rintro r x1 ⟨rfl, hc1⟩) | (go_at_call 15; with_reducible refine (lv_pre2 _).mono ?_; rintro r x2 ⟨rfl, hc4⟩) | (go_at_call 41; with_reducible refine (lv_same2 _ _ _ ?_ ?_).mono ?_ <;> first | (rintro r x4 ⟨rfl, hc2⟩) | (exact lk_row (by assumption)) | (exact row_new _ _ rfl [tA, tC] _ _ rfl) | (exact (row_new _ _ rfl [tA, tC] _ _ rfl).below (g_drew g_refl)) | (exact (row_new _ _ rfl [tA, tC] _ _ rfl).below hc1) | (exact ((row_new _ _ rfl [tA, tC] _ _ rfl).below (g_drew g_refl)).below hc1) | (exact ((row_new _ _ rfl [tA, tC] _ _ rfl).below hc1).below (g_drew g_refl))) | (go_at_call 40; with_reducible refine (lread ⟨#[97, 58, 42, 35, 114, 64, 117, 58, 97]⟩ ⟨#[97]⟩ ⟨#[]⟩ ⟨#[114]⟩ ⟨#[117]⟩ ⟨#[97]⟩ ⟨#[]⟩ true 0 _ (by decide) p_f4).mono ?_; rintro r x3 ⟨rfl, hc3⟩))
    all_goals
      go_wp2_with fail
      go_meet
      exact ⟨rfl, by repeat (first | (with_reducible exact hB9) | (with_reducible refine g_drew ?_) | (with_reducible refine g_alloc ?_ _) | (with_reducible refine g_trans ?_ hc4) | (with_reducible refine g_trans ?_ hc3) | (with_reducible refine g_trans ?_ hc2) | (with_reducible refine g_trans ?_ hc1))⟩
  case rest =>
    obtain ⟨rfl, hB⟩ := hcut
    go_wp2_with fail
    refine (lread ⟨#[97, 58, 42, 35, 114]⟩ ⟨#[97]⟩ ⟨#[]⟩ ⟨#[114]⟩ ⟨#[]⟩ ⟨#[]⟩ ⟨#[]⟩ false 0 _ (by decide) p_f5).mono ?_
    rintro r y1 ⟨rfl, hy1⟩
    go_wp2_with fail
    refine (lread ⟨#[42, 58, 120, 35, 42, 64, 117, 58, 97]⟩ ⟨#[]⟩ ⟨#[120]⟩ ⟨#[]⟩ ⟨#[117]⟩ ⟨#[97]⟩ ⟨#[]⟩ true 0 _ (by decide) p_f6).mono ?_
    rintro r y2 ⟨rfl, hy2⟩
    go_wp2_with fail
    refine (lv_both1 _).mono ?_
    rintro r y3 ⟨rfl, hy3⟩
    have HX3 : Hid (FB (y3.alloc (.cells #[.string ⟨#[97]⟩, .string ⟨#[120]⟩, .string ⟨#[114]⟩, .string ⟨#[117]⟩, .string ⟨#[97]⟩, .string ⟨#[]⟩, .bool true] 35)) y3.heap.size fB) := hid (by simp only [FB, fB]; exact ⟨by go_simp, by go_simp, by go_simp, by go_simp, by go_simp, by go_simp, by go_simp, by simp⟩)
    have hB3' := g_trans (g_trans (g_trans hB hy1) hy2) hy3
    clear hy1 hy2 hy3 hB
    go_wp2_with fail
    refine (lread ⟨#[97, 58, 42, 35, 114]⟩ ⟨#[97]⟩ ⟨#[]⟩ ⟨#[114]⟩ ⟨#[]⟩ ⟨#[]⟩ ⟨#[]⟩ false 0 _ (by decide) p_f5).mono ?_
    rintro r y4 ⟨rfl, hy4⟩
    go_wp2_with fail
    refine (lread ⟨#[98, 58, 42, 35, 42]⟩ ⟨#[98]⟩ ⟨#[]⟩ ⟨#[]⟩ ⟨#[]⟩ ⟨#[]⟩ ⟨#[]⟩ false 0 _ (by decide) p_f7).mono ?_
    rintro r y5 ⟨rfl, hy5⟩
    go_wp2_with fail
    refine (lv_both2 _).mono ?_
    rintro r y6 ⟨rfl, hy6⟩
    have hA6 := g_trans (g_trans hy4 hy5) hy6
    have HX6 := hid ((HX3.out.keep hA6).keep (g_alloc g_refl (.cells #[.string ⟨#[]⟩, .string ⟨#[]⟩, .string ⟨#[]⟩, .string ⟨#[]⟩, .string ⟨#[]⟩, .string ⟨#[]⟩, .bool false] 35)))
    have HZ6 : Hid (FB (y6.alloc (.cells #[.string ⟨#[]⟩, .string ⟨#[]⟩, .string ⟨#[]⟩, .string ⟨#[]⟩, .string ⟨#[]⟩, .string ⟨#[]⟩, .bool false] 35)) y6.heap.size zF) := hid (by simp only [FB, zF]; exact ⟨by go_simp, by go_simp, by go_simp, by go_simp, by go_simp, by go_simp, by go_simp, by simp⟩)
    have hB6 := g_alloc (g_trans (g_alloc hB3' (.cells #[.string ⟨#[97]⟩, .string ⟨#[120]⟩, .string ⟨#[114]⟩, .string ⟨#[117]⟩, .string ⟨#[97]⟩, .string ⟨#[]⟩, .bool true] 35)) hA6) (.cells #[.string ⟨#[]⟩, .string ⟨#[]⟩, .string ⟨#[]⟩, .string ⟨#[]⟩, .string ⟨#[]⟩, .string ⟨#[]⟩, .bool false] 35)
    clear hy4 hy5 hy6 hA6 HX3 hB3'
    go_wp2_with fail
    refine (fparse_v ⟨#[97, 58, 120]⟩ ⟨#[]⟩ ⟨#[]⟩ ⟨#[]⟩ ⟨#[]⟩ ⟨#[]⟩ ⟨#[]⟩ false 5 _ (by decide) pe0).mono ?_
    rintro r y7 ⟨rfl, hy7⟩
    have HX7 := hid ((HX6.out.keep hy7).keep (g_alloc g_refl (.cells #[.string ⟨#[]⟩, .string ⟨#[]⟩, .string ⟨#[]⟩, .string ⟨#[]⟩, .string ⟨#[]⟩, .string ⟨#[]⟩, .bool false] 35)))
    have HZ7 := hid ((HZ6.out.keep hy7).keep (g_alloc g_refl (.cells #[.string ⟨#[]⟩, .string ⟨#[]⟩, .string ⟨#[]⟩, .string ⟨#[]⟩, .string ⟨#[]⟩, .string ⟨#[]⟩, .bool false] 35)))
    have hB7' := g_alloc (g_trans hB6 hy7) (.cells #[.string ⟨#[]⟩, .string ⟨#[]⟩, .string ⟨#[]⟩, .string ⟨#[]⟩, .string ⟨#[]⟩, .string ⟨#[]⟩, .bool false] 35)
    clear HX6 HZ6 hy7 hB6
    go_wp2_with fail
    refine (fparse_v ⟨#[97, 58, 42, 35, 65]⟩ ⟨#[]⟩ ⟨#[]⟩ ⟨#[]⟩ ⟨#[]⟩ ⟨#[]⟩ ⟨#[]⟩ false 6 _ (by decide) pe1).mono ?_
    rintro r y8 ⟨rfl, hy8⟩
    have HX8 := hid ((HX7.out.keep hy8).keep (g_alloc g_refl (.cells #[.string ⟨#[]⟩, .string ⟨#[]⟩, .string ⟨#[]⟩, .string ⟨#[]⟩, .string ⟨#[]⟩, .string ⟨#[]⟩, .bool false] 35)))
    have HZ8 := hid ((HZ7.out.keep hy8).keep (g_alloc g_refl (.cells #[.string ⟨#[]⟩, .string ⟨#[]⟩, .string ⟨#[]⟩, .string ⟨#[]⟩, .string ⟨#[]⟩, .string ⟨#[]⟩, .bool false] 35)))
    have hB8' := g_alloc (g_trans hB7' hy8) (.cells #[.string ⟨#[]⟩, .string ⟨#[]⟩, .string ⟨#[]⟩, .string ⟨#[]⟩, .string ⟨#[]⟩, .string ⟨#[]⟩, .bool false] 35)
    clear HX7 HZ7 hy8 hB7'
    go_wp2_with fail
    refine (fparse_v ⟨#[97, 58, 120, 35, 114, 64, 117]⟩ ⟨#[]⟩ ⟨#[]⟩ ⟨#[]⟩ ⟨#[]⟩ ⟨#[]⟩ ⟨#[]⟩ false 5 _ (by decide) pe2).mono ?_
    rintro r y9 ⟨rfl, hy9⟩
    have HX9 := hid ((HX8.out.keep hy9).keep (g_alloc g_refl (.cells #[.string ⟨#[]⟩, .string ⟨#[]⟩, .string ⟨#[]⟩, .string ⟨#[]⟩, .string ⟨#[]⟩, .string ⟨#[]⟩, .bool false] 35)))
    have HZ9 := hid ((HZ8.out.keep hy9).keep (g_alloc g_refl (.cells #[.string ⟨#[]⟩, .string ⟨#[]⟩, .string ⟨#[]⟩, .string ⟨#[]⟩, .string ⟨#[]⟩, .string ⟨#[]⟩, .bool false] 35)))
    have hx := HX8.out.keep hy9
    have hz := HZ8.out.keep hy9
    have hB9' := g_alloc (g_trans hB8' hy9) (.cells #[.string ⟨#[]⟩, .string ⟨#[]⟩, .string ⟨#[]⟩, .string ⟨#[]⟩, .string ⟨#[]⟩, .string ⟨#[]⟩, .bool false] 35)
    clear HX8 HZ8 hy9 hB8'
    simp only [FB, fB, zF] at hx hz
    obtain ⟨a0, a1, a2, a3, a4, a5, a6, s1⟩ := hx
    obtain ⟨z0, z1, z2, z3, z4, z5, z6, s2⟩ := hz
    go_wp2_with fail
    refine (lv_txt _).mono ?_
    rintro r x9 ⟨rfl, hx9⟩
    have hz := HZ9.out.keep hx9
    simp only [FB, zF] at hz
    clear a0 a1 a2 a3 a4 a5 a6 s1 z0 z1 z2 z3 z4 z5 z6 s2
    obtain ⟨z0, z1, z2, z3, z4, z5, z6, s2⟩ := hz
    go_wp2
    go_ret
    exact ⟨rfl, g_trans hB9' hx9⟩
end Go.Proofs.Ytgfgfggoofjeeaa
