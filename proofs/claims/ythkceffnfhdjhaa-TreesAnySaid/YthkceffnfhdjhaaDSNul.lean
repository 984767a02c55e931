/-
  THE CONTRACTS of the methods of a map without an order (values: string).
-/
import Derived.Test.YthkceffnfhdjhaaDSMap
namespace Go.Proofs.Ythkceffnfhdjhaa.DS
open Go.RowKit Go.Deep
attribute [local go_sem] ad_nil ad_node

set_option maxRecDepth 20000 in
set_option maxHeartbeats 2000000 in
theorem find_nul (k : Int) (w : World) :
    Calls Try.prog 52 #[.agg #[.nilFunc, .pointer none], .int .i64 k] w fun e w' => e = .returned (.tuple #[.pointer none, .int .i64 0]) ∧ Below w.heap.size w w' := by
  go_enter Try.func52, Try.ntmps52
  go_wp2_with fail
  go_loopg [5, 6] 0 (fun n x p wr => x = .int .i64 0 ∧ p = .pointer none ∧ wr = (w.alloc (.cells #[.nilFunc, .pointer none] 71 (0, 0))))
  case atStart => exact ⟨rfl, rfl, rfl⟩
  case round =>
    obtain ⟨rfl, rfl, rfl⟩ := hrel
    go_wp2
    refine bodyPost_ret (v := .tuple #[.pointer none, .int .i64 0]) ?_ rfl ?_
    · simp [results, Try.results52, go_sem]
    · exact ⟨rfl, g_alloc g_refl _⟩

set_option maxRecDepth 20000 in
set_option maxHeartbeats 2000000 in
theorem new_nul_any (w : World) :
    Calls Try.prog 36 #[.nilFunc] w fun e w' => e = .returned (.agg #[.nilFunc, .pointer none]) ∧ Below w.heap.size w w' := by
  go_enter Try.func36, Try.ntmps36
  go_wp2
  refine bodyPost_ret (v := .agg #[.nilFunc, .pointer none]) ?_ rfl ?_
  · simp [results, Try.results36, go_sem]
  · exact ⟨rfl, g_alloc g_refl _⟩

set_option maxRecDepth 20000 in
set_option maxHeartbeats 2000000 in
theorem len_nul (w : World) :
    Calls Try.prog 44 #[.agg #[.nilFunc, .pointer none]] w fun e w' => e = .returned (.int .i64 0) ∧ Below w.heap.size w w' := by
  go_enter Try.func44, Try.ntmps44
  go_wp2_with fail
  refine (count_any .nil _ trivial).mono ?_
  rintro _ _ ⟨rfl, rfl⟩
  go_wp2
  go_ret
  exact ⟨rfl, g_alloc g_refl _⟩

set_option maxRecDepth 20000 in
set_option maxHeartbeats 2000000 in
theorem depth_nul_any (w : World) :
    Calls Try.prog 45 #[.agg #[.nilFunc, .pointer none]] w fun e w' => e = .returned (.int .i64 0) ∧ Below w.heap.size w w' := by
  go_enter Try.func45, Try.ntmps45
  go_wp2_with fail
  refine (levels_any .nil _ trivial).mono ?_
  rintro _ _ ⟨rfl, rfl⟩
  go_wp2
  go_ret
  exact ⟨rfl, g_alloc g_refl _⟩

set_option maxRecDepth 20000 in
set_option maxHeartbeats 2000000 in
theorem rank_nul_any (k : Int) (w : World) :
    Calls Try.prog 42 #[.agg #[.nilFunc, .pointer none], .int .i64 k] w fun e w' => e = .returned (.int .i64 0) ∧ Below w.heap.size w w' := by
  go_enter Try.func42, Try.ntmps42
  go_wp2_with fail
  refine (find_nul k _).mono ?_
  rintro _ w1 ⟨rfl, hb1⟩
  go_wp2
  go_ret
  exact ⟨rfl, g_trans (g_alloc g_refl _) hb1⟩

set_option maxRecDepth 20000 in
set_option maxHeartbeats 2000000 in
theorem get_nul_any (k : Int) (w : World) :
    Calls Try.prog 38 #[.agg #[.nilFunc, .pointer none], .int .i64 k] w fun e w' => e = .returned (.tuple #[.string ⟨#[]⟩, .bool false]) ∧ Below w.heap.size w w' := by
  go_enter Try.func38, Try.ntmps38
  go_wp2_with fail
  refine (find_nul k _).mono ?_
  rintro _ w1 ⟨rfl, hb1⟩
  go_wp2
  refine bodyPost_ret (v := .tuple #[.string ⟨#[]⟩, .bool false]) ?_ rfl ?_
  · simp [results, Try.results38, go_sem]
  · exact ⟨rfl, g_trans (g_alloc g_refl _) hb1⟩

set_option maxRecDepth 20000 in
set_option maxHeartbeats 2000000 in
theorem at_nul_neg (i : Int) (w : World) (h : i < 0) :
    Calls Try.prog 39 #[.agg #[.nilFunc, .pointer none], .int .i64 i] w fun e w' => e = .returned (.tuple #[.agg #[.int .i64 0, .string ⟨#[]⟩], .int .i64 4]) ∧ Below w.heap.size w w' := by
  have hA2 : Below w.heap.size w ((w.alloc (.cells #[.nilFunc, .pointer none] 71 (0, 0))).alloc (.cells #[.int .i64 0, .string ⟨#[]⟩] 77 (0, 0))) := g_alloc (g_alloc g_refl _) _
  have HA2 := hid hA2
  have HH := hid h
  clear hA2
  go_enter Try.func39, Try.ntmps39
  go_wp2
  refine bodyPost_ret (v := .tuple #[.agg #[.int .i64 0, .string ⟨#[]⟩], .int .i64 4]) ?_ rfl ?_
  · simp [results, Try.results39, go_sem]
  · exact ⟨rfl, g_alloc HA2.out _⟩

set_option maxRecDepth 20000 in
set_option maxHeartbeats 2000000 in
theorem at_nul_big (i : Int) (w : World) (h : 0 ≤ i) :
    Calls Try.prog 39 #[.agg #[.nilFunc, .pointer none], .int .i64 i] w fun e w' => e = .returned (.tuple #[.agg #[.int .i64 0, .string ⟨#[]⟩], .int .i64 4]) ∧ Below w.heap.size w w' := by
  have hA2 : Below w.heap.size w ((w.alloc (.cells #[.nilFunc, .pointer none] 71 (0, 0))).alloc (.cells #[.int .i64 0, .string ⟨#[]⟩] 77 (0, 0))) := g_alloc (g_alloc g_refl _) _
  have HA2 := hid hA2
  have hn : decide (i < 0) = false := by simp; omega
  clear hA2
  go_enter Try.func39, Try.ntmps39
  go_wp2_with fail
  refine (len_nul _).mono ?_
  rintro _ w1 ⟨rfl, hb1⟩
  have HB1 := hid (g_trans HA2.out hb1)
  have hr := res2 (show ((w.alloc (.cells #[.nilFunc, .pointer none] 71 (0, 0))).alloc (.cells #[.int .i64 0, .string ⟨#[]⟩] 77 (0, 0))).heap[w.heap.size + 1]? = some (.cells #[.int .i64 0, .string ⟨#[]⟩] 77 (0, 0)) by have := alloc_new (w.alloc (.cells #[.nilFunc, .pointer none] 71 (0, 0))) (.cells #[.int .i64 0, .string ⟨#[]⟩] 77 (0, 0)); rwa [show (w.alloc (.cells #[.nilFunc, .pointer none] 71 (0, 0))).heap.size = w.heap.size + 1 by simp] at this) hb1
  obtain ⟨r0, r1, r2, f0, f1⟩ := hr
  have hlt := (Array.getElem?_eq_some_iff.1 r0).1
  clear r0
  go_wp2
  refine bodyPost_ret (v := .tuple #[.agg #[.int .i64 0, .string ⟨#[]⟩], .int .i64 4]) ?_ rfl ?_
  · simp [results, Try.results39, go_sem, *]
  · exact ⟨rfl, g_alloc (g_set (g_set HB1.out (Nat.le_succ _) _) (Nat.le_succ _) _) _⟩

set_option maxRecDepth 20000 in
set_option maxHeartbeats 2000000 in
theorem range_nul (x y : Int) (w : World) :
    Calls Try.prog 40 #[.agg #[.nilFunc, .pointer none], .int .i64 x, .int .i64 y] w (Ranges w []) := by
  obtain ⟨c, hc⟩ : ∃ c : Int, max x 0 = c := ⟨_, rfl⟩
  obtain ⟨d, hd⟩ : ∃ d : Int, min y 0 = d := ⟨_, rfl⟩
  have m1 : (if x < 0 then (0 : Int) else x) = c := by split <;> omega
  have m2 : (if (0 : Int) < y then (0 : Int) else y) = d := by split <;> omega
  have m3 : (if y < (0 : Int) then y else (0 : Int)) = d := by split <;> omega
  have q7 : d ≤ c := by omega
  clear hc hd
  go_enter Try.func40, Try.ntmps40
  go_wp2_with fail
  refine (len_nul _).mono ?_
  rintro _ w1 ⟨rfl, hb1⟩
  have HB := hid (g_trans (g_alloc (g_refl (a := w)) _) hb1)
  clear hb1
  go_wp2
  go_ret
  exact ⟨none, rfl, fun h => absurd rfl h, HB.out⟩

theorem nil_nil (W : World) : (Go.binOp BinOp.eql 23 .nilFunc .nilFunc).run Try.prog W = .ok (.bool true) W := by kernel_rfl
set_option maxRecDepth 20000 in
set_option maxHeartbeats 2000000 in
theorem put_nul (k : Int) (v : ByteArray) (w : World) :
    Calls Try.prog 37 #[.agg #[.nilFunc, .pointer none], .int .i64 k, (.string v)] w fun e w' => e = .returned (.agg #[.nilFunc, .pointer none]) ∧ Below w.heap.size w w' := by
  have hnil := nil_nil
  go_enter Try.func37, Try.ntmps37
  go_wp2
  refine bodyPost_ret (v := .agg #[.nilFunc, .pointer none]) ?_ rfl ?_
  · simp [results, Try.results37, go_sem]
  · exact ⟨rfl, by first | exact g_alloc (g_alloc g_refl _) _ | exact g_set (g_set (g_alloc (g_alloc g_refl _) _) (by simp) _) (by simp) _⟩

set_option maxRecDepth 20000 in
set_option maxHeartbeats 2000000 in
theorem drop_nul (k : Int) (w : World) :
    Calls Try.prog 43 #[.agg #[.nilFunc, .pointer none], .int .i64 k] w fun e w' => e = .returned (.agg #[.nilFunc, .pointer none]) ∧ Below w.heap.size w w' := by
  have HR := hid (show ((w.alloc (.cells #[.nilFunc, .pointer none] 71 (0, 0))).alloc (.cells #[.nilFunc, .pointer none] 71 (0, 0))).heap[w.heap.size + 1]? = some (.cells #[.nilFunc, .pointer none] 71 (0, 0)) by have := alloc_new (w.alloc (.cells #[.nilFunc, .pointer none] 71 (0, 0))) (.cells #[.nilFunc, .pointer none] 71 (0, 0)); rwa [show (w.alloc (.cells #[.nilFunc, .pointer none] 71 (0, 0))).heap.size = w.heap.size + 1 by simp] at this)
  have HBP := hid (box2p w .nilFunc (.pointer none) 71)
  have hk := keep2 (g_alloc (g_refl (a := (w.alloc (.cells #[.nilFunc, .pointer none] 71 (0, 0))))) (.cells #[.nilFunc, .pointer none] 71 (0, 0))) HBP.out
  have HK := hid hk
  clear hk
  go_enter Try.func43, Try.ntmps43
  go_wp2_with fail
  refine (find_nul k _).mono ?_
  rintro _ w1 ⟨rfl, hb1⟩
  obtain ⟨r0, r1, r2, f0, f1⟩ := res2 HR.out hb1
  obtain ⟨k0, k1⟩ := keep2 hb1 HK.out
  have HB := hid (g_trans (g_alloc (g_alloc (g_refl (a := w)) _) _) hb1)
  clear r0 hb1
  go_wp2
  refine bodyPost_ret (v := .agg #[.nilFunc, .pointer none]) ?_ rfl ?_
  · simp [results, Try.results43, go_sem, *]
  · exact ⟨rfl, g_set (g_set HB.out (Nat.le_succ _) _) (Nat.le_succ _) _⟩

set_option maxRecDepth 20000 in
set_option maxHeartbeats 2000000 in
theorem between_nul_any (x y : Int) (w : World) :
    Calls Try.prog 41 #[.agg #[.nilFunc, .pointer none], .int .i64 x, .int .i64 y] w (Ranges w []) := by
  have hA : Below w.heap.size w (w.alloc (.cells #[.nilFunc, .pointer none] 71 (0, 0))) := g_alloc g_refl _
  have HA := hid hA
  have hbp := box2p w (.nilFunc) (.pointer none) 71
  have HBP := hid hbp
  clear hA hbp
  go_enter Try.func41, Try.ntmps41
  go_wp2_with fail
  generalize hA1 : (w.alloc (.cells #[.nilFunc, .pointer none] 71 (0, 0))) = A1 at *
  generalize hq : w.heap.size = q at *
  have HQ := hid hq
  clear hA1 hq
  have hS : A1.drew.cell? ⟨q, 0, none⟩ = some (.nilFunc) ∧ A1.drew.cell? ⟨q, 1, none⟩ = some (.pointer none) := HBP.out
  have HBD : Hid (Below A1.heap.size A1 A1.drew) := hid (g_drew g_refl)
  go_region_held3 (fun w' => w'.cell? ⟨q, 0, none⟩ = some (.nilFunc) ∧ w'.cell? ⟨q, 1, none⟩ = some (.pointer none)) (first | with_reducible assumption | exact keep2 (by with_reducible assumption) (by with_reducible assumption))
    (first | (go_at_call 40; (with_reducible refine Calls.mono (range_nul _ _ _) ?_); rintro _ w3 ⟨A3, rfl, hr3, hb3⟩) | (go_at_call_of 42 x; (with_reducible refine Calls.mono (rank_nul_any x _) ?_); rintro _ wx ⟨rfl, hbx⟩) | (go_at_call_of 42 y; (with_reducible refine Calls.mono (rank_nul_any y _) ?_); rintro _ wy ⟨rfl, hby⟩))
  all_goals go_wp2
  all_goals go_ret
  all_goals
    have h := HQ.out
    subst h
    exact ⟨A3, rfl, hr3, by first | with_reducible exact g_trans (g_trans (g_trans (g_trans HA.out HBD.out) hbx) hby) hb3 | with_reducible exact g_trans (g_trans (g_trans (g_trans HA.out HBD.out) hby) hbx) hb3⟩

end Go.Proofs.Ythkceffnfhdjhaa.DS
