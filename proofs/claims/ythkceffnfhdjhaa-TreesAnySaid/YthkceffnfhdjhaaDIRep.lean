/-
  THE CONTRACT of replace (values: int).
-/
import Derived.Test.YthkceffnfhdjhaaDIOps
namespace Go.Proofs.Ythkceffnfhdjhaa.DI
open Go.RowKit Go.Deep

set_option maxRecDepth 20000 in
set_option maxHeartbeats 4000000 in
theorem replace_any : ∀ (T : Tr Int) (i : Nat) (k : Int) (v : Int) (w : World), Lies w T → T.Bal → T.sz ≤ 1000000 → i < T.sz →
    Calls Try.prog 33 #[.pointer T.ad, .int .i64 (i : Nat), .agg #[.int .i64 k, (.int .i64 v)]] w (Gives w (RepP T i k v)) := by
  intro T
  induction T with
  | nil =>
    intro i k v w hT hB hs hi
    rw [Tr.sz_nil] at hi; omega
  | node b l k0 v0 r ihl ihr =>
    intro i k v w hT hB hs hi
    have hs0 := hs
    rw [Tr.sz_node] at hs hi
    have HS := hid hs
    have HB : Hid (l.Bal ∧ r.Bal ∧ l.dp ≤ r.dp + 1 ∧ r.dp ≤ l.dp + 1) := hid hB
    have HI := hid hi
    have q1 : (0 : Int) ≤ (l.sz : Int) := by omega
    have q2 : (l.sz : Int) ≤ 1000000 := by omega
    have q3 : (0 : Int) ≤ (i : Int) := by omega
    have q4 : (i : Int) ≤ 1000001 := by omega
    have hA := g_alloc (g_refl (a := w)) (.cells #[.int .i64 k, (.int .i64 v)] 50 (0, 0))
    have hbx := box2 w (.int .i64 k) (.int .i64 v) 50
    have h4 := four (hT.below hA)
    have HSS : Hid ((w.alloc (.cells #[.int .i64 k, (.int .i64 v)] 50 (0, 0))).drew.cell? ⟨b, 0, none⟩ = some (.int .i64 k0) ∧ (w.alloc (.cells #[.int .i64 k, (.int .i64 v)] 50 (0, 0))).drew.cell? ⟨b, 1, none⟩ = some (.int .i64 v0) ∧ (w.alloc (.cells #[.int .i64 k, (.int .i64 v)] 50 (0, 0))).drew.cell? ⟨b, 2, none⟩ = some (.pointer l.ad) ∧ (w.alloc (.cells #[.int .i64 k, (.int .i64 v)] 50 (0, 0))).drew.cell? ⟨b, 3, none⟩ = some (.pointer r.ad) ∧ (w.alloc (.cells #[.int .i64 k, (.int .i64 v)] 50 (0, 0))).drew.cell? ⟨w.heap.size, 0, none⟩ = some (.int .i64 k) ∧ (w.alloc (.cells #[.int .i64 k, (.int .i64 v)] 50 (0, 0))).drew.cell? ⟨w.heap.size, 1, none⟩ = some (.int .i64 v)) := hid (join6 h4 hbx)
    obtain ⟨s0, s1, s2, s3⟩ := h4
    have HL := hid (hT.left.below hA)
    have HR := hid (hT.right.below hA)
    have HA := hid hA
    have HIL := hid ihl
    have HIR := hid ihr
    by_cases hc : i < l.sz
    · have c1 : (i : Int) < (l.sz : Int) := by omega
      have HC := hid hc
      clear hc hT hs hs0 hB hi ihl ihr hA hbx s0 s1
      show Calls _ _ #[.pointer (some ⟨b, 0, none⟩), _, _] _ _
      go_enter Try.func33, Try.ntmps33
      go_wp2_with fail
      refine (count_any l _ HL.out).mono ?_
      rintro _ _ ⟨rfl, rfl⟩
      generalize hW : (w.alloc (.cells #[.int .i64 k, (.int .i64 v)] 50 (0, 0))) = W1 at *
      generalize hq : w.heap.size = q at *
      have HE := hid hq
      clear hW hq
      go_wp2_with fail
      have hS := HSS.out
      clear HSS
      have HLX : Hid (Lies W1.drew l) := hid (HL.out.below (g_drew g_refl))
      have HRX : Hid (Lies W1.drew r) := hid (HR.out.below (g_drew g_refl))
      go_region_held3 (fun w' => w'.cell? ⟨b, 0, none⟩ = some (.int .i64 k0) ∧ w'.cell? ⟨b, 1, none⟩ = some (.int .i64 v0) ∧ w'.cell? ⟨b, 2, none⟩ = some (.pointer l.ad) ∧ w'.cell? ⟨b, 3, none⟩ = some (.pointer r.ad) ∧ w'.cell? ⟨q, 0, none⟩ = some (.int .i64 k) ∧ w'.cell? ⟨q, 1, none⟩ = some (.int .i64 v)) (first | with_reducible assumption | exact keep6 (by with_reducible assumption) (by with_reducible assumption))
        (first | (go_at_call 50; (with_reducible refine Calls.mono (tree_any _ _ _ _ _ hT1 (HRX.out.below hb1) ?_) ?_); (rw [hp1.sz]; have := HS.out; omega); rintro _ w2 ⟨T2, rfl, hT2, hp2, hb2⟩) | (go_at_call 33; (with_reducible refine Calls.mono (HIL.out i k v _ HLX.out ?_ ?_ ?_) ?_); (· exact HB.out.1); (· have := HS.out; omega); (· exact HC.out); rintro _ w1 ⟨T1, rfl, hT1, hp1, hb1⟩; have hbl1 : T1.Bal := hp1.2.1))
      all_goals go_wp2
      all_goals go_ret
      all_goals
        obtain ⟨_, rfl⟩ := hp2
        exact ⟨_, rfl, hT2, rep_pl HB.out HC.out hp1, (by have h := HE.out; subst h; exact g_trans (g_trans (g_drew HA.out) hb1) hb2)⟩
    · by_cases hc2 : i = l.sz
      · subst hc2
        clear hc hT hs hs0 hB ihl ihr hA hbx s0 s1
        show Calls _ _ #[.pointer (some ⟨b, 0, none⟩), _, _] _ _
        go_enter Try.func33, Try.ntmps33
        go_wp2_with fail
        refine (count_any l _ HL.out).mono ?_
        rintro _ _ ⟨rfl, rfl⟩
        generalize hW : (w.alloc (.cells #[.int .i64 k, (.int .i64 v)] 50 (0, 0))) = W1 at *
        generalize hq : w.heap.size = q at *
        have HE := hid hq
        clear hW hq
        go_wp2_with fail
        have hS := HSS.out
        clear HSS
        have HLX : Hid (Lies W1.drew l) := hid (HL.out.below (g_drew g_refl))
        have HRX : Hid (Lies W1.drew r) := hid (HR.out.below (g_drew g_refl))
        go_region_held3 (fun w' => w'.cell? ⟨b, 0, none⟩ = some (.int .i64 k0) ∧ w'.cell? ⟨b, 1, none⟩ = some (.int .i64 v0) ∧ w'.cell? ⟨b, 2, none⟩ = some (.pointer l.ad) ∧ w'.cell? ⟨b, 3, none⟩ = some (.pointer r.ad) ∧ w'.cell? ⟨q, 0, none⟩ = some (.int .i64 k) ∧ w'.cell? ⟨q, 1, none⟩ = some (.int .i64 v)) (first | with_reducible assumption | exact keep6 (by with_reducible assumption) (by with_reducible assumption))
          (first | (go_at_call 50; (with_reducible refine Calls.mono (tree_any _ _ _ _ _ HLX.out HRX.out ?_) ?_); (have := HS.out; omega); rintro _ w2 ⟨T2, rfl, hT2, hp2, hb2⟩))
        all_goals go_wp2
        all_goals go_ret
        all_goals
          obtain ⟨_, rfl⟩ := hp2
          exact ⟨_, rfl, hT2, rep_pm HB.out, (by have h := HE.out; subst h; exact g_trans (g_drew HA.out) hb2)⟩
      · have c0 : ¬ (i : Int) < (l.sz : Int) := by omega
        have c1 : (l.sz : Int) < (i : Int) := by omega
        replace hc : l.sz < i := by omega
        have HC := hid hc
        have e1 : IntKind.i64.wrap ((i : Int) - (l.sz : Int)) = ((i - l.sz - 1 : Nat) : Int) + 1 := by rw [wrp (by omega) (by omega)]; omega
        obtain ⟨x, hx⟩ : ∃ x : Int, ((i - l.sz - 1 : Nat) : Int) + 1 = x := ⟨_, rfl⟩
        have e2 : IntKind.i64.wrap (x - 1) = ((i - l.sz - 1 : Nat) : Int) := by rw [wrp (by omega) (by omega)]; omega
        rw [hx] at e1
        clear hx hc hc2 hT hs hs0 hB hi ihl ihr hA hbx s0 s1
        show Calls _ _ #[.pointer (some ⟨b, 0, none⟩), _, _] _ _
        go_enter Try.func33, Try.ntmps33
        go_wp2_with fail
        refine (count_any l _ HL.out).mono ?_
        rintro _ _ ⟨rfl, rfl⟩
        generalize hW : (w.alloc (.cells #[.int .i64 k, (.int .i64 v)] 50 (0, 0))) = W1 at *
        generalize hq : w.heap.size = q at *
        have HE := hid hq
        clear hW hq
        go_wp2_with fail
        have hS := HSS.out
        clear HSS
        have HLX : Hid (Lies W1.drew l) := hid (HL.out.below (g_drew g_refl))
        have HRX : Hid (Lies W1.drew r) := hid (HR.out.below (g_drew g_refl))
        go_region_held3 (fun w' => w'.cell? ⟨b, 0, none⟩ = some (.int .i64 k0) ∧ w'.cell? ⟨b, 1, none⟩ = some (.int .i64 v0) ∧ w'.cell? ⟨b, 2, none⟩ = some (.pointer l.ad) ∧ w'.cell? ⟨b, 3, none⟩ = some (.pointer r.ad) ∧ w'.cell? ⟨q, 0, none⟩ = some (.int .i64 k) ∧ w'.cell? ⟨q, 1, none⟩ = some (.int .i64 v)) (first | with_reducible assumption | exact keep6 (by with_reducible assumption) (by with_reducible assumption))
          (first | (go_at_call 50; (with_reducible refine Calls.mono (tree_any _ _ _ _ _ (HLX.out.below hb1) hT1 ?_) ?_); (rw [hp1.sz]; have := HS.out; omega); rintro _ w2 ⟨T2, rfl, hT2, hp2, hb2⟩) | (go_at_call 33; (with_reducible refine Calls.mono (HIR.out (i - l.sz - 1) k v _ HRX.out ?_ ?_ ?_) ?_); (· exact HB.out.2.1); (· have := HS.out; omega); (· have h1 := HC.out; have h2 := HI.out; omega); rintro _ w1 ⟨T1, rfl, hT1, hp1, hb1⟩; have hbl1 : T1.Bal := hp1.2.1))
        all_goals go_wp2
        all_goals go_ret
        all_goals
          obtain ⟨_, rfl⟩ := hp2
          exact ⟨_, rfl, hT2, rep_pr HB.out HC.out hp1, (by have h := HE.out; subst h; exact g_trans (g_trans (g_drew HA.out) hb1) hb2)⟩

end Go.Proofs.Ythkceffnfhdjhaa.DI
