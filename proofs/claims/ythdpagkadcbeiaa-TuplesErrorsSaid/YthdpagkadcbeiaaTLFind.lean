/-
  TuplesFind returns true: the walk.
-/
import Derived.Test.YthdpagkadcbeiaaTFact
import Derived.Test.YthdpagkadcbeiaaTLives
import Derived.Test.YthdpagkadcbeiaaTOf
namespace Go.Proofs.Ythdpagkadcbeiaa
open Go.RowKit Go.Sort

theorem spc_len (n : Nat) : (spc n).size ≤ 10 := by
  by_cases h : n % 3 = 0
  · unfold spc; rw [if_pos h]; decide
  · by_cases h2 : n % 3 = 1
    · unfold spc; rw [if_neg h, if_pos h2]; decide
    · unfold spc; rw [if_neg h, if_neg h2]; decide
theorem idS_len (n : Nat) : (idS n).size ≤ 10 := by 
  unfold idS
  repeat' split
  all_goals decide
theorem relS_len (n : Nat) : (relS n).size ≤ 10 := by 
  unfold relS
  repeat' split
  all_goals decide
theorem one_sm (p q : Nat) : Small (one p q) := by
  have h1 := spc_len (p % 60); have h2 := idS_len (p % 60 / 3); have h3 := relS_len (p % 60 / 15)
  have h4 := spc_len (q % 75); have h5 := idS_len (q % 75 / 3); have h6 := relS_len (q % 75 / 15 - 1)
  by_cases h : 15 ≤ q % 75
  · rw [one_big h]; exact ⟨Nat.le_trans h1 (by decide), Nat.le_trans h2 (by decide), Nat.le_trans h3 (by decide), Nat.le_trans h4 (by decide), Nat.le_trans h5 (by decide), Nat.le_trans h6 (by decide)⟩
  · rw [one_small h]; exact ⟨Nat.le_trans h1 (by decide), Nat.le_trans h2 (by decide), Nat.le_trans h3 (by decide), Nat.le_trans h4 (by decide), Nat.le_trans h5 (by decide), Nat.zero_le _⟩
theorem ofT_fits (x : List (Nat × Nat)) : ∀ t ∈ ofT x, Fits t := fun t ht => by
  unfold ofT at ht
  obtain ⟨p, -, rfl⟩ := List.mem_map.1 ht
  exact (one_sm _ _).fits
theorem srt_fits {l : List Tup} (h : ∀ t ∈ l, Fits t) : ∀ t ∈ srt cmpT l, Fits t := fun t ht => h t ((mem_srt tot l t).1 ht)
theorem srt_len20 (x : List (Nat × Nat)) : (srt cmpT (ofT x)).length ≤ 20 := Nat.le_trans (length_srt _) (ofT_len x)
theorem srt_isB (l : List Tup) : isB cmpT (srt cmpT l) = true := (isB_asc tot _).2 (asc_srt tot l)

/-- a pair of bytes lies in a block -/
def NN (w : World) (b p q : Nat) : Prop := w.cell? ⟨b, 0, none⟩ = some (.int .u8 p) ∧ w.cell? ⟨b, 1, none⟩ = some (.int .u8 q) ∧ b < w.heap.size
theorem NN.keep {w w' : World} {b p q : Nat} (h : NN w b p q) (hb : Below w.heap.size w w') : NN w' b p q := by
  obtain ⟨h0, h1, h2⟩ := h
  exact ⟨(own_cells hb _ h2 _).1.trans h0, (own_cells hb _ h2 _).1.trans h1, Nat.lt_of_lt_of_le h2 hb.size⟩

set_option maxRecDepth 100000 in
set_option maxHeartbeats 4000000 in
theorem find_walk (A : Option Addr) (x : List (Nat × Nat)) (c p q : Nat) (w : World) (hR : RowN w A x) (hn : x.length ≤ maxLen) (hp : p < 256) (hq : q < 256) :
    Calls Try.prog 6 #[.agg #[.slice A x.length c], .agg #[.int .u8 p, .int .u8 q]] w fun e w' => e = .returned (.bool true) ∧ Below w.heap.size w w' := by
  have hmx := mixed
  go_enter Try.func6, Try.ntmps6
  go_wp2_with fail
  refine (of_any A x c _ (hR.gw (gw_alloc (gw_alloc gw_refl _) _)) hn).mono ?_
  rintro e w1 ⟨v1, rfl, hown1, hg1⟩
  obtain ⟨A1, c1, rfl, hR1, -, -⟩ := hown1.row
  go_wp2_with fail
  refine (rsorted A1 (ofT x) c1 _ hR1 (ofT_fits x) (by have := ofT_len x; omega)).mono ?_
  rintro e w2 ⟨v2, rfl, hown2, hg2⟩
  obtain ⟨A2, c2, rfl, hR2, -, -⟩ := hown2.row
  have hN2 : Hid (NN w2 (w.heap.size + 1) p q) := hid ((NN.keep (by simp only [NN]; exact ⟨by go_simp, by go_simp, by simp⟩) hg1.toBelow).keep hg2.toBelow)
  have hB2 : Hid (Below w.heap.size w w2) := hid (g_trans (g_trans (g_alloc (g_alloc g_refl _) _) hg1.toBelow) hg2.toBelow)
  have hlen := srt_len20 x
  have hisB := srt_isB (ofT x)
  have hasc := asc_srt tot (ofT x)
  have hfit := srt_fits (ofT_fits x)
  generalize srt cmpT (ofT x) = l at *
  clear hown1 hown2 hg1 hg2 hR1 hR
  have nn := hN2.out
  simp only [NN] at nn
  obtain ⟨n0, n1, n2⟩ := nn
  have HR2 := hid hR2
  clear hR2
  go_wp2_with fail
  refine (one_any p q _ hp hq).mono ?_
  rintro e w3 ⟨rfl, hw3⟩
  have hsm := (one_sm p q).fits
  generalize one p q = t at *
  have HR3 := hid (HR2.out.gw hw3)
  have hB3 := hid (g_trans hB2.out hw3.toBelow)
  clear n0 n1 n2 hN2 HR2 hB2 hw3
  simp only [val]
  go_wp2_with fail
  refine (tfind A2 l c2 t _ (HR3.out.gw (gw_alloc gw_refl _)) hisB (by omega)).mono ?_
  rintro e w4 ⟨rfl, hw4⟩
  have S4 : Hid (Six w4 w3.heap.size 0 t) := hid ((six_box w3 t 29).gw (by simp) hw4)
  have hz4 : w3.heap.size < w4.heap.size := Nat.lt_of_lt_of_le (by simp) hw4.size
  have hR4 := (HR3.out.gw (gw_alloc gw_refl _)).gw hw4
  have hB4 := hid (g_trans (g_alloc hB3.out _) hw4.toBelow)
  clear HR3 hB3 hw4
  have HF := hid (fun i hi => fnd_lt tot hasc t i hi)
  have HE := hid (fnd_le (cmp := cmpT) l t)
  have HI := hid (show inI t l = if t ∈ l then 1 else 0 from rfl)
  generalize w3.heap.size = o at *
  obtain ⟨z, hz⟩ : ∃ z, decide (t ∈ l) = z := ⟨_, rfl⟩
  rw [hz]
  have HZ := hid hz
  clear hz
  generalize fnd cmpT l t = f at *
  have HR4 := hid hR4
  clear hR4
  go_wp2
  go_loopw [9] (fun i wr => ∃ k : Nat, k ≤ f ∧ i = .int .i64 k ∧ Grew w4 wr) (fun i _ => l.length + 1 - (intOf i).toNat)
  case atStart => exact ⟨0, Nat.zero_le _, rfl, gw_refl⟩
  case round =>
    obtain ⟨k, hk, rfl, hw⟩ := hrel
    obtain ⟨p0, p1, p2, p3, p4, p5⟩ := S4.out.gw hz4 hw
    by_cases hlt : k < l.length
    · have hLx := (HR4.out.gw hw).at_ hlt
      obtain ⟨b1, o1, rfl, hL⟩ := hLx
      obtain ⟨q0, q1, q2, q3, q4, q5⟩ := hL.six hlt
      have HFK := hid (hfit _ (List.getElem_mem hlt))
      have HFT := hid hsm
      obtain ⟨v, hv⟩ : ∃ v, cmpT l[k] t = v := ⟨_, rfl⟩
      have hvf := HF.out k hlt
      rw [hv] at hvf
      have HV := hid hv; clear hv hL
      by_cases hs : v < 0
      · have hkf : k < f := hvf.1 hs
        clear hvf
        go_wp2_with fail
        go_quiet_grown (first | (go_at_call 17; exact rtcmp_q l[k] t v HV.out HFK.out HFT.out _ _ _))
        go_wp2
        go_roundw
        case rel => exact ⟨k + 1, by omega, by go_num, gw_grow (gw_drewN hw _) _⟩
        case measure => simp [intOf]; omega
      · have hkf : k = f := by omega
        subst hkf
        clear hvf
        go_wp2_with fail
        go_quiet_grown (first | (go_at_call 17; exact rtcmp_q l[k] t v HV.out HFK.out HFT.out _ _ _))
        have hw5 := gw_grow (gw_drewN hw nq) osq
        generalize grow (wr.drewN nq) osq = w5 at *
        clear p0 p1 p2 p3 p4 p5 q0 q1 q2 q3 q4 q5
        obtain ⟨p0, p1, p2, p3, p4, p5⟩ := (S4.out.gw hz4 hw5).at0
        go_wp2_with fail
        refine (rin_v _ l c2 t (if z = true then 1 else 0) _ (HR4.out.gw hw5) (by omega) (inI_of HZ.out)).mono ?_
        rintro e w6 ⟨rfl, hw6⟩
        have hB6 := hid (g_trans (g_trans hB4.out hw5.toBelow) hw6.toBelow)
        clear p0 p1 p2 p3 p4 p5
        cases z
        · simp only [Bool.false_eq_true, if_false]
          go_wp2_with fail
          refine (lives_any _).mono ?_
          rintro e w7 ⟨rfl, hw7⟩
          go_wp2
          go_ret
          exact ⟨rfl, g_trans hB6.out hw7⟩
        · simp only [if_true]
          go_wp2_with fail
          refine (lives_any _).mono ?_
          rintro e w7 ⟨rfl, hw7⟩
          go_wp2
          go_ret
          exact ⟨rfl, g_trans hB6.out hw7⟩
    · have hkf : k = f := by have := HE.out; omega
      subst hkf
      go_wp2_with fail
      go_quiet (fail)
      have hw5 := gw_drewN hw nq
      generalize wr.drewN nq = w5 at *
      clear p0 p1 p2 p3 p4 p5
      obtain ⟨p0, p1, p2, p3, p4, p5⟩ := (S4.out.gw hz4 hw5).at0
      go_wp2_with fail
      refine (rin_v _ l c2 t (if z = true then 1 else 0) _ (HR4.out.gw hw5) (by omega) (inI_of HZ.out)).mono ?_
      rintro e w6 ⟨rfl, hw6⟩
      have hB6 := hid (g_trans (g_trans hB4.out hw5.toBelow) hw6.toBelow)
      clear p0 p1 p2 p3 p4 p5
      cases z
      · simp only [Bool.false_eq_true, if_false]
        go_wp2_with fail
        refine (lives_any _).mono ?_
        rintro e w7 ⟨rfl, hw7⟩
        go_wp2
        go_ret
        exact ⟨rfl, g_trans hB6.out hw7⟩
      · simp only [if_true]
        go_wp2_with fail
        refine (lives_any _).mono ?_
        rintro e w7 ⟨rfl, hw7⟩
        go_wp2
        go_ret
        exact ⟨rfl, g_trans hB6.out hw7⟩

end Go.Proofs.Ythdpagkadcbeiaa
