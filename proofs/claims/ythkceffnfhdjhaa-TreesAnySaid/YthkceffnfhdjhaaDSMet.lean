/-
  THE CONTRACTS of New, Depth, Rank, Get, At, Between, All (values: string).
-/
import Derived.Test.YthkceffnfhdjhaaDSMap
namespace Go.Proofs.Ythkceffnfhdjhaa.DS
open Go.RowKit Go.Deep
attribute [local go_sem] ad_nil ad_node

theorem rng_all (l : List (Int × ByteArray)) : rng 0 (l.length : Int) l = l := by
  unfold rng
  rw [show (max (0 : Int) 0).toNat = 0 by rfl, List.drop_zero, List.take_of_length_le (by omega)]
set_option maxRecDepth 20000 in
set_option maxHeartbeats 2000000 in
theorem new_any (fn : Nat) (w : World) :
    Calls Try.prog 36 #[.func (.func fn) #[] #[]] w fun e w' => e = .returned (.agg #[.func (.func fn) #[] #[], .pointer none]) ∧ Below w.heap.size w w' := by
  go_enter Try.func36, Try.ntmps36
  go_wp2
  refine bodyPost_ret (v := .agg #[.func (.func fn) #[] #[], .pointer none]) ?_ rfl ?_
  · simp [results, Try.results36, go_sem]
  · exact ⟨rfl, g_alloc g_refl _⟩

set_option maxRecDepth 20000 in
set_option maxHeartbeats 2000000 in
theorem depth_any (fn : Nat) (T : Tr ByteArray) (w : World) (hT : Lies w T) :
    Calls Try.prog 45 #[.agg #[.func (.func fn) #[] #[], .pointer T.ad]] w fun e w' => e = .returned (.int .i64 (T.dp : Nat)) ∧ Below w.heap.size w w' := by
  have hA : Below w.heap.size w (w.alloc (.cells #[.func (.func fn) #[] #[], .pointer T.ad] 71 (0, 0))) := g_alloc g_refl _
  have HA := hid hA
  have HBP := hid (box2p w (.func (.func fn) #[] #[]) (.pointer T.ad) 71)
  have HT := hid (hT.below hA)
  clear hT hA
  go_enter Try.func45, Try.ntmps45
  go_wp2_with fail
  refine (levels_any T _ HT.out).mono ?_
  rintro _ _ ⟨rfl, rfl⟩
  go_wp2
  go_ret
  exact ⟨rfl, HA.out⟩

set_option maxRecDepth 20000 in
set_option maxHeartbeats 2000000 in
theorem rank_any (fn : Nat) (c : Int → Int → Int) (hO : Ord fn c) (T : Tr ByteArray) (k : Int) (w : World) (hT : Lies w T) (hs : T.sz ≤ 1000000) :
    Calls Try.prog 42 #[.agg #[.func (.func fn) #[] #[], .pointer T.ad], .int .i64 k] w fun e w' => e = .returned (.int .i64 ((Tr.look c k T).1 : Nat)) ∧ Below w.heap.size w w' := by
  have hA : Below w.heap.size w (w.alloc (.cells #[.func (.func fn) #[] #[], .pointer T.ad] 71 (0, 0))) := g_alloc g_refl _
  have HA := hid hA
  have HBP := hid (box2p w (.func (.func fn) #[] #[]) (.pointer T.ad) 71)
  have HT := hid (hT.below hA)
  have HF := hid (find_any fn c hO T k _ HT.out hs)
  clear hT hA hs
  go_enter Try.func42, Try.ntmps42
  go_wp2_with fail
  refine HF.out.mono ?_
  rintro _ w1 ⟨rfl, hb1, hl1⟩
  go_wp2
  go_ret
  exact ⟨rfl, g_trans HA.out hb1⟩

/-- what Get returns -/
def getT (c : Int → Int → Int) (T : Tr ByteArray) (k : Int) : Value :=
  match (Tr.look c k T).2 with
  | .nil => .tuple #[.string ⟨#[]⟩, .bool false]
  | .node _ _ _ v _ => .tuple #[(.string v), .bool true]
set_option maxRecDepth 20000 in
set_option maxHeartbeats 2000000 in
theorem get_any (fn : Nat) (c : Int → Int → Int) (hO : Ord fn c) (T : Tr ByteArray) (k : Int) (w : World) (hT : Lies w T) (hs : T.sz ≤ 1000000) :
    Calls Try.prog 38 #[.agg #[.func (.func fn) #[] #[], .pointer T.ad], .int .i64 k] w fun e w' => e = .returned (getT c T k) ∧ Below w.heap.size w w' := by
  have hA : Below w.heap.size w (w.alloc (.cells #[.func (.func fn) #[] #[], .pointer T.ad] 71 (0, 0))) := g_alloc g_refl _
  have HA := hid hA
  have HBP := hid (box2p w (.func (.func fn) #[] #[]) (.pointer T.ad) 71)
  have HT := hid (hT.below hA)
  have HF := hid (find_any fn c hO T k _ HT.out hs)
  unfold getT
  generalize hN : (Tr.look c k T).2 = N at *
  clear hT hA hs hN
  cases N with
  | nil =>
    go_enter Try.func38, Try.ntmps38
    go_wp2_with fail
    refine HF.out.mono ?_
    rintro _ w1 ⟨rfl, hb1, hl1⟩
    clear hl1
    go_wp2
    refine bodyPost_ret (v := .tuple #[.string ⟨#[]⟩, .bool false]) ?_ rfl ?_
    · simp [results, Try.results38, go_sem]
    · exact ⟨rfl, g_trans HA.out hb1⟩
  | node b l k0 v0 r =>
    go_enter Try.func38, Try.ntmps38
    go_wp2_with fail
    refine HF.out.mono ?_
    rintro _ w1 ⟨rfl, hb1, hl1⟩
    have hv := hl1.six.2.1
    clear hl1
    go_wp2
    refine bodyPost_ret (v := .tuple #[(.string v0), .bool true]) ?_ rfl ?_
    · simp [results, Try.results38, go_sem]
    · exact ⟨rfl, g_trans HA.out hb1⟩

set_option maxRecDepth 20000 in
set_option maxHeartbeats 2000000 in
theorem at_neg (fn : Nat) (T : Tr ByteArray) (i : Int) (w : World) (h : i < 0) :
    Calls Try.prog 39 #[.agg #[.func (.func fn) #[] #[], .pointer T.ad], .int .i64 i] w fun e w' => e = .returned (.tuple #[.agg #[.int .i64 0, .string ⟨#[]⟩], .int .i64 4]) ∧ Below w.heap.size w w' := by
  have hA2 : Below w.heap.size w ((w.alloc (.cells #[.func (.func fn) #[] #[], .pointer T.ad] 71 (0, 0))).alloc (.cells #[.int .i64 0, .string ⟨#[]⟩] 77 (0, 0))) := g_alloc (g_alloc g_refl _) _
  have HA2 := hid hA2
  have HH := hid h
  clear hA2
  go_enter Try.func39, Try.ntmps39
  go_wp2
  refine bodyPost_ret (v := .tuple #[.agg #[.int .i64 0, .string ⟨#[]⟩], .int .i64 4]) ?_ rfl ?_
  · simp [results, Try.results39, go_sem]
  · exact ⟨rfl, g_alloc HA2.out _⟩

set_option maxRecDepth 20000 in
set_option maxHeartbeats 2000000 in
theorem at_big (fn : Nat) (T : Tr ByteArray) (i : Int) (w : World) (hT : Lies w T) (h : 0 ≤ i) (h2 : (T.sz : Int) ≤ i) :
    Calls Try.prog 39 #[.agg #[.func (.func fn) #[] #[], .pointer T.ad], .int .i64 i] w fun e w' => e = .returned (.tuple #[.agg #[.int .i64 0, .string ⟨#[]⟩], .int .i64 4]) ∧ Below w.heap.size w w' := by
  have hA2 : Below w.heap.size w ((w.alloc (.cells #[.func (.func fn) #[] #[], .pointer T.ad] 71 (0, 0))).alloc (.cells #[.int .i64 0, .string ⟨#[]⟩] 77 (0, 0))) := g_alloc (g_alloc g_refl _) _
  have HA2 := hid hA2
  have HT2 := hid (hT.below hA2)
  have HLN := hid (len_any fn T _ HT2.out)
  have hn : decide (i < 0) = false := by simp; omega
  clear hT
  clear hA2
  go_enter Try.func39, Try.ntmps39
  go_wp2_with fail
  refine HLN.out.mono ?_
  rintro _ w1 ⟨rfl, hb1⟩
  have HB1 := hid (g_trans HA2.out hb1)
  have hr := res2 (show ((w.alloc (.cells #[.func (.func fn) #[] #[], .pointer T.ad] 71 (0, 0))).alloc (.cells #[.int .i64 0, .string ⟨#[]⟩] 77 (0, 0))).heap[w.heap.size + 1]? = some (.cells #[.int .i64 0, .string ⟨#[]⟩] 77 (0, 0)) by have := alloc_new (w.alloc (.cells #[.func (.func fn) #[] #[], .pointer T.ad] 71 (0, 0))) (.cells #[.int .i64 0, .string ⟨#[]⟩] 77 (0, 0)); rwa [show (w.alloc (.cells #[.func (.func fn) #[] #[], .pointer T.ad] 71 (0, 0))).heap.size = w.heap.size + 1 by simp] at this) hb1
  obtain ⟨r0, r1, r2, f0, f1⟩ := hr
  have hlt := (Array.getElem?_eq_some_iff.1 r0).1
  clear r0
  go_wp2
  refine bodyPost_ret (v := .tuple #[.agg #[.int .i64 0, .string ⟨#[]⟩], .int .i64 4]) ?_ rfl ?_
  · simp [results, Try.results39, go_sem, *]
  · exact ⟨rfl, g_alloc (g_set (g_set HB1.out (Nat.le_succ _) _) (Nat.le_succ _) _) _⟩

set_option maxRecDepth 20000 in
set_option maxHeartbeats 2000000 in
theorem at_in (fn : Nat) (T : Tr ByteArray) (i : Nat) (k : Int) (v : ByteArray) (w : World) (hT : Lies w T) (hs : T.sz ≤ 1000000) (hi : T.li[i]? = some (k, v)) :
    Calls Try.prog 39 #[.agg #[.func (.func fn) #[] #[], .pointer T.ad], .int .i64 (i : Nat)] w fun e w' => e = .returned (.tuple #[.agg #[.int .i64 k, (.string v)], .int .i64 0]) ∧ Below w.heap.size w w' := by
  have hlt : i < T.sz := by rw [← T.li_len]; exact (List.getElem?_eq_some_iff.1 hi).1
  have n0 : decide ((i : Int) < 0) = false := by simp
  have n1 : (i : Int) < (T.sz : Int) := by omega
  have hA2 : Below w.heap.size w ((w.alloc (.cells #[.func (.func fn) #[] #[], .pointer T.ad] 71 (0, 0))).alloc (.cells #[.int .i64 0, .string ⟨#[]⟩] 77 (0, 0))) := g_alloc (g_alloc g_refl _) _
  have HA2 := hid hA2
  have HT2 := hid (hT.below hA2)
  have HLN := hid (len_any fn T _ HT2.out)
  have HI := hid hi
  have HS := hid hs
  have HBP := hid (box2p w (.func (.func fn) #[] #[]) (.pointer T.ad) 71)
  have hk := keep2 (g_alloc (g_refl (a := (w.alloc (.cells #[.func (.func fn) #[] #[], .pointer T.ad] 71 (0, 0))))) (.cells #[.int .i64 0, .string ⟨#[]⟩] 77 (0, 0))) HBP.out
  have HK2 := hid hk
  clear hT hs hi hlt hA2 hk
  go_enter Try.func39, Try.ntmps39
  go_wp2_with fail
  refine HLN.out.mono ?_
  rintro _ w1 ⟨rfl, hb1⟩
  have HB1 := hid (g_trans HA2.out hb1)
  have hk1 := keep2 hb1 HK2.out
  obtain ⟨k0, k1⟩ := hk1
  have HT3 := hid (HT2.out.below hb1)
  have hr := res2 (show ((w.alloc (.cells #[.func (.func fn) #[] #[], .pointer T.ad] 71 (0, 0))).alloc (.cells #[.int .i64 0, .string ⟨#[]⟩] 77 (0, 0))).heap[w.heap.size + 1]? = some (.cells #[.int .i64 0, .string ⟨#[]⟩] 77 (0, 0)) by have := alloc_new (w.alloc (.cells #[.func (.func fn) #[] #[], .pointer T.ad] 71 (0, 0))) (.cells #[.int .i64 0, .string ⟨#[]⟩] 77 (0, 0)); rwa [show (w.alloc (.cells #[.func (.func fn) #[] #[], .pointer T.ad] 71 (0, 0))).heap.size = w.heap.size + 1 by simp] at this) hb1
  have HR := hid hr.1
  clear hb1 hr
  go_wp2_with fail
  refine (at_any T i k v _ HT3.out HS.out HI.out).mono ?_
  rintro _ w2 ⟨rfl, hb2⟩
  have HB2 := hid (g_trans HB1.out hb2)
  obtain ⟨r0, r1, r2, f0, f1⟩ := res2 HR.out hb2
  clear r0 hb2 k0 k1
  go_wp2
  refine bodyPost_ret (v := .tuple #[.agg #[.int .i64 k, (.string v)], .int .i64 0]) ?_ rfl ?_
  · simp [results, Try.results39, go_sem, *]
  · exact ⟨rfl, g_set (g_set HB2.out (Nat.le_succ _) _) (Nat.le_succ _) _⟩

set_option maxRecDepth 20000 in
set_option maxHeartbeats 2000000 in
theorem between_any (fn : Nat) (c : Int → Int → Int) (hO : Ord fn c) (T : Tr ByteArray) (x y : Int) (w : World) (hT : Lies w T) (hs : T.sz ≤ 1000000) :
    Calls Try.prog 41 #[.agg #[.func (.func fn) #[] #[], .pointer T.ad], .int .i64 x, .int .i64 y] w (Ranges w (rng ((Tr.look c x T).1 : Nat) ((Tr.look c y T).1 : Nat) T.li)) := by
  have hA : Below w.heap.size w (w.alloc (.cells #[.func (.func fn) #[] #[], .pointer T.ad] 71 (0, 0))) := g_alloc g_refl _
  have HA := hid hA
  have hbp := box2p w (.func (.func fn) #[] #[]) (.pointer T.ad) 71
  have HBP := hid hbp
  have HT := hid (hT.below hA)
  have HS := hid hs
  have HO := hid hO
  generalize hi : (Tr.look c x T).1 = ii at *
  generalize hj : (Tr.look c y T).1 = jj at *
  have HI := hid hi
  have HJ := hid hj
  clear hT hs hO hi hj
  clear hA hbp
  go_enter Try.func41, Try.ntmps41
  go_wp2_with fail
  generalize hA1 : (w.alloc (.cells #[.func (.func fn) #[] #[], .pointer T.ad] 71 (0, 0))) = A1 at *
  generalize hq : w.heap.size = q at *
  have HQ := hid hq
  clear hA1 hq
  have hS : A1.drew.cell? ⟨q, 0, none⟩ = some (.func (.func fn) #[] #[]) ∧ A1.drew.cell? ⟨q, 1, none⟩ = some (.pointer T.ad) := HBP.out
  have HBD : Hid (Below A1.heap.size A1 A1.drew) := hid (g_drew g_refl)
  have HTX : Hid (Lies A1.drew T) := hid (HT.out.below HBD.out)
  have HRX := hid (fun W (h : Lies W T) => show Calls Try.prog 42 #[.agg #[.func (.func fn) #[] #[], .pointer T.ad], .int .i64 x] W (fun e w' => e = .returned (.int .i64 (ii : Nat)) ∧ Below W.heap.size W w') by have q := rank_any fn c HO.out T x W h HS.out; rw [HI.out] at q; exact q)
  have HRY := hid (fun W (h : Lies W T) => show Calls Try.prog 42 #[.agg #[.func (.func fn) #[] #[], .pointer T.ad], .int .i64 y] W (fun e w' => e = .returned (.int .i64 (jj : Nat)) ∧ Below W.heap.size W w') by have q := rank_any fn c HO.out T y W h HS.out; rw [HJ.out] at q; exact q)
  go_region_held3 (fun w' => w'.cell? ⟨q, 0, none⟩ = some (.func (.func fn) #[] #[]) ∧ w'.cell? ⟨q, 1, none⟩ = some (.pointer T.ad)) (first | with_reducible assumption | exact keep2 (by with_reducible assumption) (by with_reducible assumption))
    (first | (go_at_call 40; (with_reducible refine Calls.mono (range_any fn T _ _ _ (by first | with_reducible exact (HTX.out.below hbx).below hby | with_reducible exact (HTX.out.below hby).below hbx) HS.out) ?_); rintro _ w3 ⟨A3, rfl, hr3, hb3⟩) | (go_at_call_of 42 x; (with_reducible refine Calls.mono (HRX.out _ (by first | with_reducible exact HTX.out | with_reducible exact HTX.out.below hby)) ?_); rintro _ wx ⟨rfl, hbx⟩) | (go_at_call_of 42 y; (with_reducible refine Calls.mono (HRY.out _ (by first | with_reducible exact HTX.out | with_reducible exact HTX.out.below hbx)) ?_); rintro _ wy ⟨rfl, hby⟩))
  all_goals go_wp2
  all_goals go_ret
  all_goals
    have h := HQ.out
    subst h
    exact ⟨A3, rfl, hr3, by first | with_reducible exact g_trans (g_trans (g_trans (g_trans HA.out HBD.out) hbx) hby) hb3 | with_reducible exact g_trans (g_trans (g_trans (g_trans HA.out HBD.out) hby) hbx) hb3⟩

end Go.Proofs.Ythkceffnfhdjhaa.DS
