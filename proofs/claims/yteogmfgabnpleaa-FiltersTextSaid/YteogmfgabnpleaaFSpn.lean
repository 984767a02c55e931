/-
  THE CONTRACT of the reference's Span.
-/
import Derived.Test.YteogmfgabnpleaaFRef
namespace Go.Proofs.Yteogmfgabnpleaa
open Go.RowKit Go.Sort

/-- the tuple that a filter's fields are -/
def tupF (g : Fil) : Tup := ⟨g.a, g.b, g.c, g.d, g.e, g.f⟩
theorem sA_hit0 {n0 n1 k : Nat} (h1 : n0 = k) (h2 : k < n1) : sA n0 n1 k = -1 ∧ sA n0 n1 (k + 1) = k ∧ sB n0 n1 (k + 1) = ((k + 1 : Nat) : Int) := by
  refine ⟨(sA_neg (by omega)).1, ?_, ?_⟩
  · rw [(sA_pos (by omega)).1, h1]
  · rw [(sA_pos (by omega)).2]; omega
theorem sA_hit1 {n0 n1 k : Nat} (h1 : n0 < k) (h2 : k < n1) : sA n0 n1 k = n0 ∧ sA n0 n1 (k + 1) = n0 ∧ sB n0 n1 (k + 1) = ((k + 1 : Nat) : Int) := by
  refine ⟨(sA_pos (by omega)).1, ?_, ?_⟩
  · rw [(sA_pos (by omega)).1]
  · rw [(sA_pos (by omega)).2]; omega

set_option maxRecDepth 20000 in
set_option maxHeartbeats 8000000 in
theorem rspan_g (f : Fil) (g : Fil) (A : Option Addr) (l : List Tup) (c n0 n1 : Nat) (w : World) (hR : Row w A l) (hn : l.length ≤ 9000) (hF : ∀ x ∈ l, Fits x) (hG : Fits (tupF g)) (hg : fst1 f = g) (h01 : n0 ≤ n1) (h1l : n1 ≤ l.length)
    (hT : ∀ i (h : i < l.length), takes g l[i] = true ↔ n0 ≤ i ∧ i < n1) (hC : ∀ i (h : i < l.length), cmpT l[i] (tupF g) < 0 ↔ i < n0) :
    Calls Try.prog 21 #[.slice A l.length c, valF f] w fun r w' => r = .returned (.tuple #[.int .i64 n0, .int .i64 n1]) ∧ Grew w w' := by
  have hmx := mixed
  have HR := hid hR; clear hR
  have HF := hid hF; clear hF
  have HG := hid hG; clear hG
  have HT := hid hT; clear hT
  have HC := hid hC; clear hC
  have H1 := hid (first_any f (w.alloc (.cells #[.string f.a, .string f.b, .string f.c, .string f.d, .string f.e, .string f.f, .bool f.x] 48)))
  rw [hg] at H1
  clear hg
  obtain ⟨a, b', c', d, e, f, x⟩ := f
  obtain ⟨ga, gb, gc, gd, ge, gf, gx⟩ := g
  simp only [valF] at *
  go_enter Try.func21, Try.ntmps21
  go_wp2_with fail
  refine H1.out.mono ?_
  rintro r w1 ⟨rfl, hw1⟩
  have hB1 : Grew w w1 := gw_trans (gw_alloc gw_refl _) hw1
  have HFB1 : Hid (FB (w1.alloc (.cells #[.string ga, .string gb, .string gc, .string gd, .string ge, .string gf, .bool gx] 48)) w1.heap.size ⟨ga, gb, gc, gd, ge, gf, gx⟩) := hid (by simp only [FB]; exact ⟨by go_simp, by go_simp, by go_simp, by go_simp, by go_simp, by go_simp, by go_simp, by simp⟩)
  clear hw1 H1
  go_wp2
  go_loopw [7, 8, 9] (fun va vb i wr => ∃ k : Nat, k ≤ l.length ∧ i = .int .i64 k ∧ va = .int .i64 (sA n0 n1 k) ∧ vb = .int .i64 (sB n0 n1 k) ∧ Grew (w1.alloc (.cells #[.string ga, .string gb, .string gc, .string gd, .string ge, .string gf, .bool gx] 48)) wr) (fun _ _ i _ => l.length - (intOf i).toNat)
  case atStart => exact ⟨0, Nat.zero_le _, rfl, by rw [(sA_neg (by omega)).1], by rw [(sA_neg (by omega)).2], gw_refl⟩
  case round =>
    obtain ⟨k, hk, rfl, rfl, rfl, hw⟩ := hrel
    have hB2 : Hid (Grew w wr) := hid (gw_trans hB1 (gw_trans (gw_alloc gw_refl _) hw))
    have HFB := hid (HFB1.out.keep hw.toBelow)
    by_cases hlt : k < l.length
    · obtain ⟨b, o, rfl, hL⟩ := (HR.out.gw hB2.out).at_ hlt
      obtain ⟨q0, q1, q2, q3, q4, q5⟩ := hL.six hlt
      obtain ⟨p0, p1, p2, p3, p4, p5, p6⟩ := HFB.out.grown
      clear hL
      by_cases hin : n0 ≤ k ∧ k < n1
      · have HU := hid (tkI_yes ((HT.out k hlt).2 hin))
        by_cases h0 : n0 = k
        · obtain ⟨s1, s2, s3⟩ := sA_hit0 h0 hin.2
          have HS := hid (And.intro s2 s3)
          rw [s1]
          clear s1 s2 s3
          go_wp2_with fail
          go_quiet_grown (first | (go_at_call 27; exact rtakes_q ⟨ga, gb, gc, gd, ge, gf, gx⟩ l[k] 1 HU.out _ _ _))
          go_wp2
          go_roundw
          case rel => exact ⟨k + 1, by omega, by go_num, by rw [HS.out.1], by rw [HS.out.2]; go_num, gw_grow (gw_drewN hw _) _⟩
          case measure => simp [intOf]; omega
        · obtain ⟨s1, s2, s3⟩ := sA_hit1 (n0 := n0) (n1 := n1) (k := k) (by omega) hin.2
          have HS := hid (And.intro (s1.trans s2.symm) s3)
          have hs0 : (0 : Int) ≤ (n0 : Int) := by omega
          rw [s1]
          rw [s1] at HS
          clear s1 s2 s3
          go_wp2_with fail
          go_quiet_grown (first | (go_at_call 27; exact rtakes_q ⟨ga, gb, gc, gd, ge, gf, gx⟩ l[k] 1 HU.out _ _ _))
          go_wp2
          go_roundw
          case rel => exact ⟨k + 1, by omega, by go_num, by rw [← HS.out.1], by rw [HS.out.2]; go_num, gw_grow (gw_drewN hw _) _⟩
          case measure => simp [intOf]; omega
      · have HU := hid (tkI_no (f := ⟨ga, gb, gc, gd, ge, gf, gx⟩) (t := l[k]) (by
          cases h : takes ⟨ga, gb, gc, gd, ge, gf, gx⟩ l[k]
          · rfl
          · exact absurd ((HT.out k hlt).1 h) hin))
        have HS := hid (sA_keep hin h01)
        generalize sA n0 n1 k = s1 at *
        generalize sB n0 n1 k = s2 at *
        clear hin
        go_wp2_with fail
        go_quiet_grown (first | (go_at_call 27; exact rtakes_q ⟨ga, gb, gc, gd, ge, gf, gx⟩ l[k] 0 HU.out _ _ _))
        go_wp2
        go_roundw
        case rel => exact ⟨k + 1, by omega, by go_num, by rw [HS.out.1], by rw [HS.out.2], gw_grow (gw_drewN hw _) _⟩
        case measure => simp [intOf]; omega
    · obtain rfl : k = l.length := by omega
      by_cases hh : n0 < n1
      · obtain ⟨s1, s2⟩ := sA_pos (n0 := n0) (n1 := n1) (k := l.length) (by omega)
        rw [show min l.length n1 = n1 by omega] at s2
        rw [s1, s2]
        have hs0 : (0 : Int) ≤ (n0 : Int) := by omega
        clear s1 s2
        go_wp2
        go_ret2
        exact ⟨rfl, hB2.out⟩
      · obtain rfl : n0 = n1 := by omega
        obtain ⟨s1, s2⟩ := sA_neg (n0 := n0) (n1 := n0) (k := l.length) (by omega)
        rw [s1, s2]
        clear s1 s2
        obtain ⟨p0, p1, p2, p3, p4, p5, p6, p7⟩ := HFB.out
        go_wp2
        go_loopw [11] (fun i wr2 => ∃ k : Nat, k ≤ n0 ∧ i = .int .i64 k ∧ Grew (wr.alloc (.cells #[.string ga, .string gb, .string gc, .string gd, .string ge, .string gf] 30)) wr2) (fun i _ => l.length + 1 - (intOf i).toNat)
        case atStart => exact ⟨0, Nat.zero_le _, rfl, gw_refl⟩
        case round =>
          obtain ⟨k, hk2, rfl, hw2⟩ := hrel
          have hB3 : Grew w wr := gw_trans hB2.out (gw_trans (gw_alloc gw_refl _) hw2)
          obtain ⟨t0, t1, t2, t3, t4, t5⟩ := (six_box _ ⟨ga, gb, gc, gd, ge, gf⟩ 30).gw (by simp) hw2
          by_cases hlt2 : k < l.length
          · obtain ⟨b, o, rfl, hL⟩ := (HR.out.gw hB3).at_ hlt2
            obtain ⟨q0, q1, q2, q3, q4, q5⟩ := hL.six hlt2
            clear hL
            have HFK := hid (HF.out _ (List.getElem_mem hlt2))
            obtain ⟨v, hv⟩ : ∃ v, cmpT l[k] ⟨ga, gb, gc, gd, ge, gf⟩ = v := ⟨_, rfl⟩
            have hvf := HC.out k hlt2
            simp only [tupF] at hvf
            rw [hv] at hvf
            have HV := hid hv; clear hv
            by_cases hs : v < 0
            · have hkf := hvf.1 hs
              clear hvf
              go_wp2_with fail
              go_quiet_grown (first | (go_at_call 51; exact rtcmp_q l[k] ⟨ga, gb, gc, gd, ge, gf⟩ v HV.out HFK.out HG.out _ _ _))
              go_wp2
              go_roundw
              case rel => exact ⟨k + 1, by omega, by go_num, gw_grow (gw_drewN hw2 _) _⟩
              case measure => simp [intOf]; omega
            · have hkf : k = n0 := by omega
              subst hkf
              clear hvf
              go_wp2_with fail
              go_quiet_grown (first | (go_at_call 51; exact rtcmp_q l[k] ⟨ga, gb, gc, gd, ge, gf⟩ v HV.out HFK.out HG.out _ _ _))
              go_wp2
              go_ret2
              exact ⟨rfl, gw_grow (gw_drewN hB3 _) _⟩
          · have hkf : k = n0 := by omega
            subst hkf
            go_wp2_with fail
            go_quiet (fail)
            go_wp2
            go_ret2
            exact ⟨rfl, gw_drewN hB3 _⟩
theorem rspan (f : Fil) (A : Option Addr) (l : List Tup) (c : Nat) (w : World) (hR : Row w A l) (hn : l.length ≤ 9000) (hF : ∀ x ∈ l, Fits x) (hG : Fits (tupF (fst1 f))) (hA : Asc cmpT l) :
    Calls Try.prog 21 #[.slice A l.length c, valF f] w fun r w' => r = .returned (.tuple #[.int .i64 (lo f l), .int .i64 (hi f l)]) ∧ Grew w w' :=
  rspan_g f (fst1 f) A l c _ _ w hR hn hF hG rfl (lo_le f l) (hi_le f l) (fun i h => in_span hA f i h) (fun i h => by
    rw [← lo_lt hA f i h]; exact least_lt f l[i])
end Go.Proofs.Yteogmfgabnpleaa
