/-
  THE CONTRACT of sets' List.
-/
import Derived.Test.YtgfgfggoofjeeaaGreatDTHas
import Derived.Test.YtgfgfggoofjeeaaGreatTCe
namespace Go.Proofs.YtgfgfggoofjeeaaGreat.DT
open Go.RowKit Go.Deep

theorem infoQ : (Tryz.prog.info? 48).map (fun i => (i.zero.map Value.cells, i.size, i.bytes)) = some (some #[.string ⟨#[]⟩, .string ⟨#[]⟩, .string ⟨#[]⟩, .string ⟨#[]⟩, .string ⟨#[]⟩, .string ⟨#[]⟩], 6, 96) := by kernel_rfl
theorem infoQ3 : ∃ (i : TypeInfo) (z : Value), Tryz.prog.info? 48 = some i ∧ i.zero = some z ∧ i.size = 6 ∧ i.bytes = 96 := by
  obtain ⟨i, hi, h⟩ := Option.map_eq_some_iff.1 infoQ
  injection h with h1 h2
  injection h2 with h2 h3
  obtain ⟨z, hz, -⟩ := Option.map_eq_some_iff.1 h1
  exact ⟨i, z, hi, hz, h2, h3⟩
theorem made (m : Nat) (hm : m ≤ 1000000) : ∃ MC : Array Value, MC.size = m * 6 ∧ ∀ W : World, (Instr.makeSlice 31 (.int .i64 (m : Nat)) (.int .i64 (m : Nat))).run Tryz.prog W = .ok (.slice (some ⟨W.heap.size, 0, none⟩) m m) (W.alloc (.cells MC 48 (0, 0))) := by
  obtain ⟨i, z, hi, hz, h2, h3⟩ := infoQ3
  refine ⟨madeCells z.cells (m * 6), by rw [size_madeCells], fun W => ?_⟩
  have h := run_make (P := Tryz.prog) W 31 48 i z Tryz.underlying31 hi hz .i64 .i64 (m : Int) (m : Int) (by omega) (by omega) (by rw [h3]; omega) (by omega)
  rw [h2] at h
  exact h
theorem Cel.app {w : World} {g cap : Nat} {d : List Tup} (h : Cel w g cap d) (hl : d.length < cap) (x : Tup) : Cel (w.setCells g (d.length * 6) (enc x)) g cap (d ++ [x]) := by
  obtain ⟨h1, h2, cur, hg, hs, hc⟩ := h
  refine ⟨by rw [List.length_append, List.length_singleton]; omega, h2, _, sets_heap g _ _ _ _ _ hg, by rw [Go.Sort.size_setMany]; exact hs, fun i hi c v hv => ?_⟩
  rw [List.length_append, List.length_singleton] at hi
  have hlt := enc_lt hv
  rw [many_get _ _ _ _ (by omega), enc_len]
  by_cases e : i = d.length
  · subst e
    rw [List.getElem_append_right (Nat.le_refl _)] at hv
    simp only [Nat.sub_self, List.getElem_cons_zero] at hv
    rw [if_pos (by omega), show d.length * 6 + c - d.length * 6 = c by omega]; exact hv
  · rw [List.getElem_append_left (by omega)] at hv
    rw [if_neg (by omega)]; exact hc i (by omega) c v hv
theorem len_m {ov : Value} {T : Tr} {l : List Tup} {m : Nat} (hm : l.length = m) (W : World) (h : MapL W ov T l) :
    Calls Tryz.prog 44 #[.agg #[ov, .pointer T.ad]] W fun e w' => e = .returned (.int .i64 (m : Nat)) ∧ Below W.heap.size W w' := by subst hm; exact len_l h
theorem some_of {o : Option Value} (h : o.isSome = true) : ∃ v, o = some v := Option.isSome_iff_exists.1 h
set_option maxRecDepth 20000 in
set_option maxHeartbeats 4000000 in
theorem list_l {w : World} {ov : Value} {T : Tr} {l : List Tup} (h : MapL w ov T l) (hn : l.length ≤ 900000) :
    Calls Tryz.prog 37 #[.agg #[ov, .pointer T.ad]] w fun e w' => ∃ g, e = .returned (.slice (some ⟨g, 0, none⟩) l.length l.length) ∧ w.heap.size ≤ g ∧ Cel w' g l.length l ∧ Below w.heap.size w w' := by
  have hA : Below w.heap.size w (w.alloc (.cells #[ov, .pointer T.ad] 38 (0, 0))) := g_alloc g_refl _
  have hbp := box2p w ov (.pointer T.ad) 38
  have HBP := hid hbp
  have HA := hid hA
  have HL := hid (h.below hA)
  have HN := hid hn
  obtain ⟨MC, hMC, hmk⟩ := made l.length (by omega)
  have HMC := hid hMC
  have hm0 : l.length = l.length := rfl
  generalize hm : l.length = m at hmk hMC HMC hn HN ⊢
  have HM := hid hm
  have HLN := hid (fun W h => len_m (ov := ov) (T := T) hm W h)
  clear h hA hbp hMC hm0 hm
  go_enter Tryz.func37, Tryz.ntmps37
  go_wp2_with fail
  generalize hA1 : (w.alloc (.cells #[ov, .pointer T.ad] 38 (0, 0))) = A1 at *
  generalize hq : w.heap.size = q at *
  have HQ := hid hq
  clear hA1 hq
  refine (HLN.out _ HL.out).mono ?_
  rintro _ w1 ⟨rfl, hb1⟩
  have hk := keep2 hb1 HBP.out
  obtain ⟨k0, k1⟩ := hk
  have HL1 := hid (HL.out.below hb1)
  have HB1 := hid hb1
  have hC0 : Cel (w1.alloc (.cells MC 48 (0, 0))) w1.heap.size m [] := ⟨Nat.zero_le _, Nat.le_trans hn (by decide), MC, new_at w1 _, HMC.out, fun i hi => absurd hi (Nat.not_lt_zero _)⟩
  have HC0 := hid hC0
  obtain ⟨k2, k3⟩ := keep2 (g_alloc (g_refl (a := w1)) (.cells MC 48 (0, 0))) (And.intro k0 k1)
  have HB2 := hid (g_alloc (g_refl (a := w1)) (.cells MC 48 (0, 0)))
  have HK := hid (And.intro k0 k1)
  clear hb1 hC0
  go_wp2_with fail
  refine (HLN.out _ (HL1.out.below HB2.out)).mono ?_
  rintro _ w3 ⟨rfl, hb3⟩
  have hg3 : w1.heap.size < (w1.alloc (.cells MC 48 (0, 0))).heap.size := by simp
  have HC3 := hid (HC0.out.keep (hb3.block _ hg3))
  have HB3 := hid (g_trans HB2.out hb3)
  have HG3 := hid (Nat.lt_of_lt_of_le hg3 hb3.size)
  clear k0 k1 k2 k3 hb3 hg3 HC0 HB2 hmk
  generalize hg : w1.heap.size = g at *
  have HG := hid hg
  clear hg
  go_wp2
  go_loopw [14] (fun i wr => ∃ k : Nat, k ≤ m ∧ i = .int .i64 k ∧ Cel wr g m (l.take k) ∧ Below w1.heap.size w1 wr) (fun i _ => m - (intOf i).toNat)
  case atStart => exact ⟨0, Nat.zero_le _, rfl, by rw [List.take_zero]; exact HC3.out, by have h := HG.out; rw [h]; exact HB3.out⟩
  case round =>
    obtain ⟨k, hk, rfl, hC, hw⟩ := hrel
    by_cases hlt : k < m
    · have hll : k < l.length := by have := HM.out; omega
      have hAt := at_l (List.getElem?_eq_getElem hll) (HL1.out.below hw) (by have := HM.out; omega)
      have HAT := hid hAt
      obtain ⟨k0, k1⟩ := keep2 hw HK.out
      have HC := hid hC
      have HW := hid hw
      generalize hx : l[k] = x at *
      have HX := hid hx
      clear hC hw hAt hx
      go_wp2_with fail
      refine HAT.out.mono ?_
      rintro _ w4 ⟨rfl, hb4⟩
      have hg4 := HC.out.lt
      have hC4 := HC.out.keep (hb4.block _ hg4)
      have HC4 := hid hC4
      have HW4 := hid (g_trans HW.out hb4)
      have ht : (l.take k).length = k := by rw [List.length_take]; omega
      have HT := hid ht
      have f0 := hC4.frozen (k * 6)
      have f1 := hC4.frozen (k * 6 + 1)
      have f2 := hC4.frozen (k * 6 + 2)
      have f3 := hC4.frozen (k * 6 + 3)
      have f4 := hC4.frozen (k * 6 + 4)
      have f5 := hC4.frozen (k * 6 + 5)
      obtain ⟨v0, c0⟩ := some_of (hC4.some_ (j := k * 6) (by omega))
      obtain ⟨v1, c1⟩ := some_of (hC4.some_ (j := k * 6 + 1) (by omega))
      obtain ⟨v2, c2⟩ := some_of (hC4.some_ (j := k * 6 + 2) (by omega))
      obtain ⟨v3, c3⟩ := some_of (hC4.some_ (j := k * 6 + 3) (by omega))
      obtain ⟨v4, c4⟩ := some_of (hC4.some_ (j := k * 6 + 4) (by omega))
      obtain ⟨v5, c5⟩ := some_of (hC4.some_ (j := k * 6 + 5) (by omega))
      have hlt4 : g < w4.heap.size := Nat.lt_of_lt_of_le hg4 hb4.size
      have hne : ¬ g = w4.heap.size := by omega
      have hne2 : ¬ w4.heap.size = g := by omega
      clear hC4 ht hb4 k0 k1 hg4 HC HW HAT
      go_wp2
      go_roundw
      case rel =>
        have hC5 := Cel.app HC4.out (by have := HT.out; omega) x
        rw [HT.out, ← HX.out, ← List.take_succ_eq_append_getElem hll] at hC5
        have hC6 : Cel ((w4.setCells g (k * 6) (enc x)).alloc (.cells #[.string x.a, .string x.b, .string x.c, .string x.d, .string x.e, .string x.f] 86 (0, 0))) g m (l.take (k + 1)) := by
          rw [← HX.out]
          exact hC5.keep ((g_alloc g_refl _).block _ hC5.lt)
        have hg0 : w1.heap.size ≤ g := Nat.le_of_eq HG.out
        exact ⟨k + 1, by omega, by go_num, hC6, g_alloc (g_set (g_set (g_set (g_set (g_set (g_set HW4.out hg0 _) hg0 _) hg0 _) hg0 _) hg0 _) hg0 _) _⟩
      case measure => simp [intOf]; omega
    · have e : k = m := by omega
      subst e
      rw [List.take_of_length_le (by have := HM.out; omega)] at hC
      have HC := hid hC
      have HW := hid hw
      clear hC hw
      go_wp2
      go_ret
      have h := HQ.out
      subst h
      refine ⟨g, rfl, ?_, HC.out, g_trans (g_trans HA.out HB1.out) HW.out⟩
      have h1 := HA.out.size
      have h2 := HB1.out.size
      have h3 := HG.out
      omega
end Go.Proofs.YtgfgfggoofjeeaaGreat.DT
