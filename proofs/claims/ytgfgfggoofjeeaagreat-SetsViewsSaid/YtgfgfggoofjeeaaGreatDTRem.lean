/-
  THE CONTRACT of remove (keys: tuples, no values).
-/
import Derived.Test.YtgfgfggoofjeeaaGreatDTOps
namespace Go.Proofs.YtgfgfggoofjeeaaGreat.DT
open Go.RowKit Go.Deep

set_option maxRecDepth 20000 in
set_option maxHeartbeats 4000000 in
theorem remove_any : ∀ (T : Tr) (i : Nat) (w : World), Lies w T → T.Bal → T.sz ≤ 1000000 → i < T.sz →
    Calls Tryz.prog 71 #[.pointer T.ad, .int .i64 (i : Nat)] w (Gives w (RemP T i)) := by
  intro T
  induction T with
  | nil =>
    intro i w hT hB hs hi
    rw [Tr.sz_nil] at hi; omega
  | node b l k0 r ihl ihr =>
    intro i w hT hB hs hi
    have hs0 := hs
    rw [Tr.sz_node] at hs hi
    have HS := hid hs
    have HB : Hid (l.Bal ∧ r.Bal ∧ l.dp ≤ r.dp + 1 ∧ r.dp ≤ l.dp + 1) := hid hB
    have HI := hid hi
    have q1 : (0 : Int) ≤ (l.sz : Int) := by omega
    have q2 : (l.sz : Int) ≤ 1000000 := by omega
    have q3 : (0 : Int) ≤ (i : Int) := by omega
    have q4 : (i : Int) ≤ 1000001 := by omega
    have HSS : Hid (w.drew.cell? ⟨b, 0, none⟩ = some (.string k0.a) ∧ w.drew.cell? ⟨b, 1, none⟩ = some (.string k0.b) ∧ w.drew.cell? ⟨b, 2, none⟩ = some (.string k0.c) ∧ w.drew.cell? ⟨b, 3, none⟩ = some (.string k0.d) ∧ w.drew.cell? ⟨b, 4, none⟩ = some (.string k0.e) ∧ w.drew.cell? ⟨b, 5, none⟩ = some (.string k0.f) ∧ w.drew.cell? ⟨b, 6, none⟩ = some (.pointer l.ad) ∧ w.drew.cell? ⟨b, 7, none⟩ = some (.pointer r.ad)) := hid (four (hT.below (g_drew g_refl)))
    obtain ⟨-, -, -, -, -, -, s6, s7⟩ := four hT
    have HL := hid hT.left
    have HR := hid hT.right
    have HIL := hid ihl
    have HIR := hid ihr
    by_cases hc : i < l.sz
    · have c1 : (i : Int) < (l.sz : Int) := by omega
      have HC := hid hc
      clear hc hT hs hs0 hB hi ihl ihr
      show Calls _ _ #[.pointer (some ⟨b, 0, none⟩), _] _ _
      go_enter Tryz.func71, Tryz.ntmps71
      go_wp2_with fail
      refine (count_any l _ HL.out).mono ?_
      rintro _ W2 ⟨rfl, rfl⟩
      go_wp2_with fail
      have hS := HSS.out
      clear HSS
      have HLX : Hid (Lies W2.drew l) := hid (HL.out.below (g_drew g_refl))
      have HRX : Hid (Lies W2.drew r) := hid (HR.out.below (g_drew g_refl))
      go_region_held3 (fun w' => w'.cell? ⟨b, 0, none⟩ = some (.string k0.a) ∧ w'.cell? ⟨b, 1, none⟩ = some (.string k0.b) ∧ w'.cell? ⟨b, 2, none⟩ = some (.string k0.c) ∧ w'.cell? ⟨b, 3, none⟩ = some (.string k0.d) ∧ w'.cell? ⟨b, 4, none⟩ = some (.string k0.e) ∧ w'.cell? ⟨b, 5, none⟩ = some (.string k0.f) ∧ w'.cell? ⟨b, 6, none⟩ = some (.pointer l.ad) ∧ w'.cell? ⟨b, 7, none⟩ = some (.pointer r.ad)) (first | with_reducible assumption | exact keep8 (by with_reducible assumption) (by with_reducible assumption))
        (first | (go_at_call 86; (with_reducible refine Calls.mono (balance_any _ _ _ _ hT1 (HRX.out.below hb1) ?_ hbl1 HB.out.2.1 ?_ ?_) ?_); (have := hp1.sz; have := HS.out; omega); (have h1 := HB.out.2.2; have h2 := hp1.2.2; omega); (have h1 := HB.out.2.2; have h2 := hp1.2.2; omega); rintro _ w2 ⟨T2, rfl, hT2, hp2, hb2⟩) | (go_at_call 71; (with_reducible refine Calls.mono (HIL.out i _ HLX.out ?_ ?_ ?_) ?_); (· exact HB.out.1); (· have := HS.out; omega); (· exact HC.out); rintro _ w1 ⟨T1, rfl, hT1, hp1, hb1⟩; have hbl1 : T1.Bal := hp1.2.1))
      all_goals go_wp2
      all_goals go_ret
      all_goals
        exact ⟨_, rfl, hT2, rem_pl HB.out HC.out hp1 hp2, (g_trans (g_trans (g_drew g_refl) hb1) hb2)⟩
    · by_cases hc2 : i = l.sz
      · subst hc2
        cases r with
        | nil =>
          have HP := hid (rem_pn (b := b) (k0 := k0) HB.out)
          replace s7 : w.cell? ⟨b, 7, none⟩ = some (.pointer none) := s7
          clear hc HSS hT hs hs0 hB hi ihl ihr
          show Calls _ _ #[.pointer (some ⟨b, 0, none⟩), _] _ _
          go_enter Tryz.func71, Tryz.ntmps71
          go_wp2_with fail
          refine (count_any l _ HL.out).mono ?_
          rintro _ W2 ⟨rfl, rfl⟩
          go_wp2
          go_ret
          exact ⟨_, rfl, HL.out, HP.out, g_refl⟩
        | node c rl rk rr =>
          have hr0 : ∃ k1, (Tr.node c rl rk rr).li[0]? = some k1 := by
            have : 0 < (Tr.node c rl rk rr).li.length := by rw [Tr.li_len, Tr.sz_node]; omega
            exact ⟨_, List.getElem?_eq_getElem this⟩
          obtain ⟨k1, hr0⟩ := hr0
          have HSN : Hid (w.drew.cell? ⟨b, 0, none⟩ = some (.string k0.a) ∧ w.drew.cell? ⟨b, 1, none⟩ = some (.string k0.b) ∧ w.drew.cell? ⟨b, 2, none⟩ = some (.string k0.c) ∧ w.drew.cell? ⟨b, 3, none⟩ = some (.string k0.d) ∧ w.drew.cell? ⟨b, 4, none⟩ = some (.string k0.e) ∧ w.drew.cell? ⟨b, 5, none⟩ = some (.string k0.f) ∧ w.drew.cell? ⟨b, 6, none⟩ = some (.pointer l.ad) ∧ w.drew.cell? ⟨b, 7, none⟩ = some (.pointer (some ⟨c, 0, none⟩))) := hid HSS.out
          have HR0 := hid hr0
          have HRS := hid (show (Tr.node c rl rk rr).sz ≤ 1000000 by omega)
          have HRP := hid (show 0 < (Tr.node c rl rk rr).sz by rw [Tr.sz_node]; omega)
          have hat : ∀ W, Lies W (Tr.node c rl rk rr) → Calls Tryz.prog 58 #[.pointer (some ⟨c, 0, none⟩), .int .i64 0] W fun e w' => e = .returned (.agg #[.string k1.a, .string k1.b, .string k1.c, .string k1.d, .string k1.e, .string k1.f]) ∧ Below W.heap.size W w' := fun W h => by have q := at_any _ 0 k1 W h HRS.out hr0; rw [show ((0 : Nat) : Int) = 0 from rfl] at q; exact q
          have HAT := hid hat
          have hrm : ∀ W, Lies W (Tr.node c rl rk rr) → Calls Tryz.prog 71 #[.pointer (some ⟨c, 0, none⟩), .int .i64 0] W (Gives W (RemP (.node c rl rk rr) 0)) := fun W h => by have q := ihr 0 W h HB.out.2.1 HRS.out HRP.out; rw [show ((0 : Nat) : Int) = 0 from rfl] at q; exact q
          have HRM := hid hrm
          have HRX : Hid (Lies w.drew (Tr.node c rl rk rr)) := hid (HR.out.below (g_drew g_refl))
          have HLX : Hid (Lies w.drew l) := hid (HL.out.below (g_drew g_refl))
          replace s7 : w.cell? ⟨b, 7, none⟩ = some (.pointer (some ⟨c, 0, none⟩)) := s7
          clear hc HSS hr0 hat hrm hT hs hs0 hB hi ihl ihr
          show Calls _ _ #[.pointer (some ⟨b, 0, none⟩), _] _ _
          go_enter Tryz.func71, Tryz.ntmps71
          go_wp2_with fail
          refine (count_any l _ HL.out).mono ?_
          rintro _ W2 ⟨rfl, rfl⟩
          go_wp2_with fail
          have hS := HSN.out
          clear HSN
          go_region_held3 (fun w' => w'.cell? ⟨b, 0, none⟩ = some (.string k0.a) ∧ w'.cell? ⟨b, 1, none⟩ = some (.string k0.b) ∧ w'.cell? ⟨b, 2, none⟩ = some (.string k0.c) ∧ w'.cell? ⟨b, 3, none⟩ = some (.string k0.d) ∧ w'.cell? ⟨b, 4, none⟩ = some (.string k0.e) ∧ w'.cell? ⟨b, 5, none⟩ = some (.string k0.f) ∧ w'.cell? ⟨b, 6, none⟩ = some (.pointer l.ad) ∧ w'.cell? ⟨b, 7, none⟩ = some (.pointer (some ⟨c, 0, none⟩))) (first | with_reducible assumption | exact keep8 (by with_reducible assumption) (by with_reducible assumption))
            (first | (go_at_call 86; (with_reducible refine Calls.mono (balance_any _ _ _ _ (by first | with_reducible exact (HLX.out.below hb0).below hb1 | with_reducible exact (HLX.out.below hb1).below hb0) (by first | with_reducible exact hT1 | with_reducible exact hT1.below hb0) ?_ HB.out.1 hbl1 ?_ ?_) ?_); (have := hp1.sz; have := HS.out; omega); (have h1 := HB.out.2.2; have h2 := hp1.2.2; omega); (have h1 := HB.out.2.2; have h2 := hp1.2.2; omega); rintro _ w2 ⟨T2, rfl, hT2, hp2, hb2⟩) | (go_at_call 58; (with_reducible refine Calls.mono (HAT.out _ (by first | with_reducible exact HRX.out | with_reducible exact HRX.out.below hb1)) ?_); rintro _ w0 ⟨rfl, hb0⟩) | (go_at_call 71; (with_reducible refine Calls.mono (HRM.out _ (by first | with_reducible exact HRX.out | with_reducible exact HRX.out.below hb0)) ?_); rintro _ w1 ⟨T1, rfl, hT1, hp1, hb1⟩; have hbl1 : T1.Bal := hp1.2.1))
          all_goals go_wp2
          all_goals go_ret
          all_goals
            exact ⟨_, rfl, hT2, rem_pm HB.out HR0.out hp1 hp2, by first | with_reducible exact g_trans (g_trans (g_trans (g_drew g_refl) hb0) hb1) hb2 | with_reducible exact g_trans (g_trans (g_trans (g_drew g_refl) hb1) hb0) hb2⟩
      · have c0 : ¬ (i : Int) < (l.sz : Int) := by omega
        have c1 : (l.sz : Int) < (i : Int) := by omega
        replace hc : l.sz < i := by omega
        have HC := hid hc
        have e1 : IntKind.i64.wrap ((i : Int) - (l.sz : Int)) = ((i - l.sz - 1 : Nat) : Int) + 1 := by rw [wrp (by omega) (by omega)]; omega
        obtain ⟨x, hx⟩ : ∃ x : Int, ((i - l.sz - 1 : Nat) : Int) + 1 = x := ⟨_, rfl⟩
        have e2 : IntKind.i64.wrap (x - 1) = ((i - l.sz - 1 : Nat) : Int) := by rw [wrp (by omega) (by omega)]; omega
        rw [hx] at e1
        clear hx hc hc2 hT hs hs0 hB hi ihl ihr
        show Calls _ _ #[.pointer (some ⟨b, 0, none⟩), _] _ _
        go_enter Tryz.func71, Tryz.ntmps71
        go_wp2_with fail
        refine (count_any l _ HL.out).mono ?_
        rintro _ W2 ⟨rfl, rfl⟩
        go_wp2_with fail
        have hS := HSS.out
        clear HSS
        have HLX : Hid (Lies W2.drew l) := hid (HL.out.below (g_drew g_refl))
        have HRX : Hid (Lies W2.drew r) := hid (HR.out.below (g_drew g_refl))
        go_region_held3 (fun w' => w'.cell? ⟨b, 0, none⟩ = some (.string k0.a) ∧ w'.cell? ⟨b, 1, none⟩ = some (.string k0.b) ∧ w'.cell? ⟨b, 2, none⟩ = some (.string k0.c) ∧ w'.cell? ⟨b, 3, none⟩ = some (.string k0.d) ∧ w'.cell? ⟨b, 4, none⟩ = some (.string k0.e) ∧ w'.cell? ⟨b, 5, none⟩ = some (.string k0.f) ∧ w'.cell? ⟨b, 6, none⟩ = some (.pointer l.ad) ∧ w'.cell? ⟨b, 7, none⟩ = some (.pointer r.ad)) (first | with_reducible assumption | exact keep8 (by with_reducible assumption) (by with_reducible assumption))
          (first | (go_at_call 86; (with_reducible refine Calls.mono (balance_any _ _ _ _ (HLX.out.below hb1) hT1 ?_ HB.out.1 hbl1 ?_ ?_) ?_); (have := hp1.sz; have := HS.out; omega); (have h1 := HB.out.2.2; have h2 := hp1.2.2; omega); (have h1 := HB.out.2.2; have h2 := hp1.2.2; omega); rintro _ w2 ⟨T2, rfl, hT2, hp2, hb2⟩) | (go_at_call 71; (with_reducible refine Calls.mono (HIR.out (i - l.sz - 1) _ HRX.out ?_ ?_ ?_) ?_); (· exact HB.out.2.1); (· have := HS.out; omega); (· have h1 := HC.out; have h2 := HI.out; omega); rintro _ w1 ⟨T1, rfl, hT1, hp1, hb1⟩; have hbl1 : T1.Bal := hp1.2.1))
        all_goals go_wp2
        all_goals go_ret
        all_goals
          exact ⟨_, rfl, hT2, rem_pr HB.out HC.out hp1 hp2, (g_trans (g_trans (g_drew g_refl) hb1) hb2)⟩

end Go.Proofs.YtgfgfggoofjeeaaGreat.DT
