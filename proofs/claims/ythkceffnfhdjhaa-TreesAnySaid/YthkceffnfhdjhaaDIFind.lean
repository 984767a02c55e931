/-
  THE CONTRACT of find (values: int), for whatever order is called.
-/
import Derived.Test.YthkceffnfhdjhaaDIOps
namespace Go.Proofs.Ythkceffnfhdjhaa.DI
open Go.RowKit Go.Deep

/-- the function fn is called, and gives c -/
def Ord (fn : Nat) (c : Int → Int → Int) : Prop :=
  (∀ x y W, (callFunc fn #[x, y]).run Try.prog W = .ok (.enter fn #[x, y]) W) ∧
    ∀ x y W, Calls Try.prog fn #[.int .i64 x, .int .i64 y] W fun e w' => e = .returned (.int .i64 (c x y)) ∧ w' = W
theorem box2p (w : World) (a b : Value) (t : TypeId) : (w.alloc (.cells #[a, b] t (0, 0))).cell? ⟨w.heap.size, 0, none⟩ = some a ∧ (w.alloc (.cells #[a, b] t (0, 0))).cell? ⟨w.heap.size, 1, none⟩ = some b := by
  constructor <;> go_simp

set_option maxRecDepth 20000 in
set_option maxHeartbeats 2000000 in
theorem find_any (fn : Nat) (c : Int → Int → Int) (hO : Ord fn c) (T : Tr Int) (k : Int) (w : World) (hT : Lies w T) (hs : T.sz ≤ 1000000) :
    Calls Try.prog 31 #[.agg #[.func (.func fn) #[] #[], .pointer T.ad], .int .i64 k] w fun e w' =>
      e = .returned (.tuple #[.pointer (Tr.look c k T).2.ad, .int .i64 ((Tr.look c k T).1 : Nat)]) ∧ Below w.heap.size w w' ∧ Lies w' (Tr.look c k T).2 := by
  have HT := hid (hT.below (g_alloc (g_refl (a := w)) (.cells #[.func (.func fn) #[] #[], .pointer T.ad] 26 (0, 0))))
  have HA := hid (g_alloc (g_refl (a := w)) (.cells #[.func (.func fn) #[] #[], .pointer T.ad] 26 (0, 0)))
  have HS := hid hs
  have HX := hid (box2p w (.func (.func fn) #[] #[]) (.pointer T.ad) 26)
  have HO := hid hO
  clear hT hs hO
  go_enter Try.func31, Try.ntmps31
  go_wp2_with fail
  generalize hW : (w.alloc (.cells #[.func (.func fn) #[] #[], .pointer T.ad] 26 (0, 0))) = W1 at *
  generalize hq : w.heap.size = q at *
  have HE := hid hq
  clear hW hq
  go_loopg [5, 6] T.sz (fun n x p wr => ∃ (S : Tr Int) (j : Nat), n = S.sz ∧ x = .int .i64 (j : Nat) ∧ p = .pointer S.ad ∧ j + S.sz ≤ 1000000 ∧ Tr.look c k T = (j + (Tr.look c k S).1, (Tr.look c k S).2) ∧ Lies wr S ∧ Below W1.heap.size W1 wr)
  case atStart => exact ⟨T, 0, rfl, rfl, rfl, by have := HS.out; omega, by rw [Nat.zero_add], HT.out, g_refl⟩
  case round =>
    obtain ⟨S, j, hn, rfl, rfl, hz, hl, hS, hw⟩ := hrel
    have HN := hid hn
    have HK := hid hl
    have HW := hid hw
    have c0 := keep1 hw HX.out.1
    have c1 := keep1 hw HX.out.2
    have p0 : (0 : Int) ≤ (j : Int) := by omega
    have p1 : (j : Int) ≤ 1000000 := by omega
    cases S with
    | nil =>
      have HS1 := hid hS
      clear hn hl hS hw hz HT HX
      show Code.wp _ _ _ { tmps := #[_, _, _, _, _, _, .pointer none, _, _, _, _, _, _, _, _, _, _, _, _, _, _, _, _, _, _, _, _, _, _, _, _, _, _, _, _, _, _, _, _, _, _, _, _, _, _, _, _, _, _, _, _, _], defers := _ } _
      go_wp2
      have h := HE.out
      subst h
      refine bodyPost_ret (v := .tuple #[.pointer none, .int .i64 (j : Nat)]) ?_ rfl ?_
      · simp [results, Try.results31, go_sem]
      · exact ⟨by rw [HK.out]; rfl, g_trans HA.out HW.out, by rw [HK.out]; trivial⟩
    | node b l k0 v0 r =>
      obtain ⟨s0, s1, s2, s3, s4, s5⟩ := hS.six
      have HSN := hid hS
      have HL := hid hS.left
      have HR := hid hS.right
      rw [Tr.sz_node] at hz
      have HZ := hid hz
      have p2 : (0 : Int) ≤ (l.sz : Int) := by omega
      have p3 : (l.sz : Int) ≤ 1000000 := by omega
      have p4 : (j : Int) + (l.sz : Int) ≤ 1000000 := by omega
      obtain ⟨cv, hcv⟩ : ∃ cv, c k k0 = cv := ⟨_, rfl⟩
      have hcmp : ∀ W, Calls Try.prog fn #[.int .i64 k, .int .i64 k0] W fun e w' => e = .returned (.int .i64 cv) ∧ w' = W := fun W => by rw [← hcv]; exact HO.out.2 k k0 W
      have hcf := HO.out.1
      have HC := hid hcv
      clear hn hl hS hw hz HT HX s1 s4 s5 hcv
      rcases Int.lt_trichotomy cv 0 with hc | hc | hc
      · have HLT := hid hc
        show Code.wp _ _ _ { tmps := #[_, _, _, _, _, _, .pointer (some ⟨b, 0, none⟩), _, _, _, _, _, _, _, _, _, _, _, _, _, _, _, _, _, _, _, _, _, _, _, _, _, _, _, _, _, _, _, _, _, _, _, _, _, _, _, _, _, _, _, _, _], defers := _ } _
        go_wp2_with fail
        go_quiet (refine Calls.quiet_of_same (hcmp _))
        generalize hY : wr.drewN nq = Y at *
        have hYB : Below wr.heap.size wr Y := by rw [← hY]; exact g_drewN g_refl nq
        have t2 := keep1 hYB s2
        have t3 := keep1 hYB s3
        have HLY := hid (HL.out.below hYB)
        have HRY := hid (HR.out.below hYB)
        have HSY := hid (HSN.out.below hYB)
        have HWY := hid (g_trans HW.out hYB)
        clear hY hYB s0 s2 s3 HL HR HSN HW c0 c1 hcmp hcf
        go_wp2
        go_roundg l.sz
        case measure => rw [HN.out, Tr.sz_node]; omega
        case rel => exact ⟨l, j, rfl, rfl, rfl, by have := HZ.out; omega, by rw [HK.out, Tr.look_lt (by rw [HC.out]; exact HLT.out)], HLY.out, HWY.out⟩
      · subst hc
        show Code.wp _ _ _ { tmps := #[_, _, _, _, _, _, .pointer (some ⟨b, 0, none⟩), _, _, _, _, _, _, _, _, _, _, _, _, _, _, _, _, _, _, _, _, _, _, _, _, _, _, _, _, _, _, _, _, _, _, _, _, _, _, _, _, _, _, _, _, _], defers := _ } _
        go_wp2_with fail
        go_quiet (refine Calls.quiet_of_same (hcmp _))
        generalize hY : wr.drewN nq = Y at *
        have hYB : Below wr.heap.size wr Y := by rw [← hY]; exact g_drewN g_refl nq
        have t2 := keep1 hYB s2
        have t3 := keep1 hYB s3
        have HLY := hid (HL.out.below hYB)
        have HRY := hid (HR.out.below hYB)
        have HSY := hid (HSN.out.below hYB)
        have HWY := hid (g_trans HW.out hYB)
        clear hY hYB s0 s2 s3 HL HR HSN HW c0 c1 hcmp hcf
        go_wp2_with fail
        refine (count_any l _ HLY.out).mono ?_
        rintro _ _ ⟨rfl, rfl⟩
        go_wp2
        have h := HE.out
        subst h
        refine bodyPost_ret (v := .tuple #[.pointer (some ⟨b, 0, none⟩), .int .i64 ((j : Int) + (l.sz : Int))]) ?_ rfl ?_
        · simp [results, Try.results31, go_sem]
        · refine ⟨?_, g_trans HA.out HWY.out, ?_⟩
          · rw [HK.out, Tr.look_eq HC.out]; simp [Tr.ad]
          · rw [HK.out, Tr.look_eq HC.out]; exact HSY.out
      · have HLT := hid hc
        have hcn : decide (cv < 0) = false := by simp; omega
        have hcp : decide ((0 : Int) < cv) = true := by simp; omega
        clear hc
        show Code.wp _ _ _ { tmps := #[_, _, _, _, _, _, .pointer (some ⟨b, 0, none⟩), _, _, _, _, _, _, _, _, _, _, _, _, _, _, _, _, _, _, _, _, _, _, _, _, _, _, _, _, _, _, _, _, _, _, _, _, _, _, _, _, _, _, _, _, _], defers := _ } _
        go_wp2_with fail
        go_quiet (refine Calls.quiet_of_same (hcmp _))
        generalize hY : wr.drewN nq = Y at *
        have hYB : Below wr.heap.size wr Y := by rw [← hY]; exact g_drewN g_refl nq
        have t2 := keep1 hYB s2
        have t3 := keep1 hYB s3
        have HLY := hid (HL.out.below hYB)
        have HRY := hid (HR.out.below hYB)
        have HSY := hid (HSN.out.below hYB)
        have HWY := hid (g_trans HW.out hYB)
        clear hY hYB s0 s2 s3 HL HR HSN HW c0 c1 hcmp hcf
        have p5 : (0 : Int) ≤ (j : Int) + ((l.sz : Int) + 1) := by omega
        have p6 : (j : Int) + ((l.sz : Int) + 1) ≤ 1000001 := by omega
        go_wp2_with fail
        refine (count_any l _ HLY.out).mono ?_
        rintro _ _ ⟨rfl, rfl⟩
        go_wp2
        go_roundg r.sz
        case measure => rw [HN.out, Tr.sz_node]; omega
        case rel => exact ⟨r, j + (l.sz + 1), rfl, by simp, rfl, by have := HZ.out; omega, by rw [HK.out, Tr.look_gt (by rw [HC.out]; exact HLT.out), Nat.add_assoc, Nat.add_assoc, Nat.add_assoc], HRY.out, HWY.out⟩
end Go.Proofs.Ythkceffnfhdjhaa.DI
