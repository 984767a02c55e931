/-
  CodecsOwn returns true, and its argument reads as before: the walk.
-/
import Derived.Test.YtohnhjmiblgkkaaCPB
import Derived.Deep.LoopGhost
namespace Go.Proofs.Ytohnhjmiblgkkaa
open Go.RowKit

set_option maxRecDepth 20000 in
set_option maxHeartbeats 4000000 in
theorem own_walk (A : Option Addr) (c : Nat) (L : List UInt8) (s : ByteArray) (W : World) (hin : BIn W A L) (hc : L.length ≤ c) (h0 : A = none → c = 0) :
    Calls Try.prog 6 #[.slice A L.length c, .string s] W fun e W' => e = .returned (.bool true) ∧ Below W.heap.size W W' := by
  have HI := hid (And.intro hin (And.intro hc h0))
  clear hin hc h0
  by_cases hb : L.length ≤ 300 ∧ s.size ≤ 40
  · obtain ⟨hb1, hb2⟩ := hb
    have HN := hid (And.intro hb1 hb2)
    generalize hn : L.length = n at *
    have HL := hid hn
    have hm1 : ¬ (300 : Int) < (n : Int) := by omega
    have hm2 : ¬ (40 : Int) < (s.size : Int) := by omega
    clear hb1 hb2 hn
    go_enter Try.func6, Try.ntmps6
    go_wp2_with fail
    rw [← HL.out]
    refine (of_any A c L W HI.out.1.1 (by have := HI.out.2.1; have := HL.out; omega) HI.out.2.2 (by have := HL.out; have := HN.out.1; omega)).mono ?_
    rintro e w1 ⟨r, B, rfl, hR, hr, hB, hw1⟩
    rw [HL.out]
    have HR := hid (And.intro hR (And.intro hr hB))
    have HP := hid ((PB.start HI.out.1).below hw1)
    have hcv := conv_o w1 A c L HP.out.reads
    rw [HL.out] at hcv
    clear hR hr hB hw1 hm1 hm2
    go_wp2
    go_loopg [7] 300 (fun k i wr => ∃ (j : Nat) (M : List UInt8), k = 300 - j ∧ j ≤ n ∧ i = .int .i64 j ∧ PB W wr A L M ∧ Inc L M j ∧ RS wr r B L ⟨0, 0, 0⟩)
    case atStart => exact ⟨0, L, rfl, Nat.zero_le _, rfl, HP.out, Inc.start L, HR.out.1⟩
    case round =>
      obtain ⟨j, M, hk, hj, rfl, hP, hI, hR⟩ := hrel
      have HK := hid (And.intro hk hj)
      have HQ := hid (And.intro hP (And.intro hI hR))
      clear hk hP hI hR hcv
      by_cases hlt : j < n
      · as_aux_lemma =>
        have hlt2 : (j : Int) < (n : Int) := by omega
        have h0 : (0 : Int) ≤ (j : Int) := by omega
        have hjL : j < L.length := by have := HL.out; omega
        have hjM : j < M.length := by have := HQ.out.1.1; omega
        obtain ⟨hMj, hnext⟩ := HQ.out.2.1.next hjL hjM
        obtain ⟨g, o, hA, hg, hcell, hfr, hset⟩ := HQ.out.1.set j hjM (L[j] + 1) _ (inc8 L[j])
        rw [hMj] at hcell
        have HRS := hid (HQ.out.2.2.other (gb_set _ g (o + j) (.int .u8 (((L[j].toNat : Int) + 1) % 256))) (by have := HR.out.2.1; omega) (fun _ a ha => by have := HR.out.2.2 a ha; omega))
        have HJ := hid hlt
        subst hA
        generalize L[j] = b at *
        have HS := hid (And.intro hset hnext)
        generalize (b.toNat : Int) = z at *
        clear hset hnext hMj hjL hjM hj hlt hg
        go_wp2
        go_roundg (300 - (j + 1))
        case measure => have := HK.out; have := HJ.out; have := HN.out.1; omega
        case rel => exact ⟨j + 1, _, rfl, HJ.out, congrArg (Value.int .i64) (show wrap64 ((j : Int) + 1) = ((j + 1 : Nat) : Int) by have h1 := HJ.out; have h2 := HN.out.1; unfold wrap64; omega), HS.out.1, HS.out.2, HRS.out⟩
      · have hlt2 : ¬ (j : Int) < (n : Int) := by omega
        have HE := hid (HQ.out.2.1.swap (by have := HL.out; omega))
        clear hlt hj
        go_wp2_with fail
        refine (number_any r B L ⟨0, 0, 0⟩ wr HQ.out.2.2).mono ?_
        rintro e w2 ⟨rfl, hR2, hg2⟩
        have HP2 := HQ.out.1.grown hg2 HR.out.2.1
        rw [HE.out] at HP2
        obtain ⟨cp, w3, hsb, hcp, hby, hw3⟩ := str_bytes w2 L
        have HB3 := hid (And.intro hcp hby)
        have HP3 := hid (HP2.below hw3)
        rw [HL.out] at hsb
        clear hR2 hg2 HP2 hcp hby hw3 HQ HR HP HE HK
        generalize hX : (rnum L ⟨0, 0, 0⟩).1 = X at *
        have HX := hid hX
        clear hX
        go_wp2_with fail
        rw [← HL.out]
        refine (of_any (some ⟨w2.heap.size, 0, none⟩) cp L w3 HB3.out.2 HB3.out.1 (fun h => by cases h) (by have := HL.out; have := HN.out.1; omega)).mono ?_
        rintro e w4 ⟨r4, B4, rfl, hR4, hr4, hB4, hw4⟩
        rw [HL.out]
        have HR4 := hid (And.intro hR4 (show W.heap.size ≤ r4 from Nat.le_trans HP3.out.size hr4))
        have HP4 := hid (HP3.out.below hw4)
        clear hR4 hr4 hB4 hw4 hsb HB3 HP3
        go_wp2_with fail
        refine (number_any r4 B4 L ⟨0, 0, 0⟩ w4 HR4.out.1).mono ?_
        rintro e w5 ⟨rfl, hR5, hg5⟩
        rw [HX.out]
        have HP5 := hid (HP4.out.grown hg5 HR4.out.2)
        clear hR5 hg5 HR4 HP4
        go_wp2_with fail
        refine (wtext_any w5.heap.size W.heap.size (.slice none 0 0) [] s (by have := HN.out.2; omega) _ (ws0 w5 _) (by simp) (by have := HP5.out.size; simp; omega)).mono ?_
        rintro e w6 ⟨rfl, v6, hw6, hc6⟩
        rw [List.nil_append] at hw6
        have HP6 := hid ((HP5.out.below (g_alloc g_refl _)).writer hc6 HP5.out.size (fun k h => by cases h))
        have HT := hid (tform_len s)
        have HTE := hid (show tform s = tform s from rfl)
        generalize hT : tform s = T at *
        have HTT := hid hT
        have HW6 := hid hw6
        have H5 := hid HP5.out.size
        clear hw6 hc6 HP5 hT HTE
        go_wp2_with fail
        refine (wbytes_any w5.heap.size W.heap.size v6 T w6 HW6.out (by have := HT.out.2; have := HN.out.2; omega)).mono ?_
        rintro e w7 ⟨B7, rfl, hB7, hf7, hw7⟩
        have HP7 := hid (HP6.out.below hw7)
        have HW7 := hid (HW6.out.below hw7)
        have hcv7 := conv_all w7 B7 T.length T hB7
        have HB7 := hid (show BIn w7 B7 T from ⟨hB7.toO, fun hn a ha i _ => by
          obtain ⟨g, e, hd⟩ := hB7 hn
          rw [e] at ha; injection ha with ha; subst ha
          exact hd.1.2 _⟩)
        have HF7 := hid (show ∀ a, B7 = some a → w5.heap.size < a.block ∧ W.heap.size ≤ a.block ∧ ∀ k, v6.ownBlock = some k → k < a.block from fun a ha => ⟨Nat.lt_of_lt_of_le HW6.out.lt (hf7 a ha), Nat.le_trans HP6.out.size (hf7 a ha), fun k hk => Nat.lt_of_lt_of_le (World.ownsRow.lt HW6.out.own k hk).2 (hf7 a ha)⟩)
        clear hB7 hf7 hw7 HP6 HW6
        generalize hm : T.length = m at *
        have HM := hid (show T.length = m ∧ m ≤ 60 from ⟨hm, by have := HT.out.2; have := HN.out.2; omega⟩)
        clear hm HT
        go_wp2
        go_loopg [13] 60 (fun k i wr => ∃ (j : Nat) (M : List UInt8), k = 60 - j ∧ j ≤ m ∧ i = .int .i64 j ∧ PB w7 wr B7 T M ∧ Inc T M j ∧ PB W wr A L (L.map (· + 1)) ∧ WS wr w5.heap.size W.heap.size v6 T)
        case atStart => exact ⟨0, T, rfl, Nat.zero_le _, rfl, PB.start HB7.out, Inc.start T, HP7.out, HW7.out⟩
        case round =>
          obtain ⟨j, M, hk, hj, rfl, hP, hI, hPW, hWS⟩ := hrel
          have HK := hid (And.intro hk hj)
          have HQ := hid (And.intro hP (And.intro hI (And.intro hPW hWS)))
          clear hk hP hI hPW hWS hcv7
          by_cases hlt : j < m
          · as_aux_lemma =>
            have hlt2 : (j : Int) < (m : Int) := by omega
            have h0 : (0 : Int) ≤ (j : Int) := by omega
            have hjL : j < T.length := by have := HM.out.1; omega
            have hjM : j < M.length := by have := HQ.out.1.1; omega
            obtain ⟨hMj, hnext⟩ := HQ.out.2.1.next hjL hjM
            obtain ⟨g, o, hA, hg, hcell, hfr, hset⟩ := HQ.out.1.set j hjM (T[j] + 1) _ (inc8 T[j])
            rw [hMj] at hcell
            have HF := hid (HF7.out _ hA)
            have HPW := hid (HQ.out.2.2.1.grown (gb_set wr g (o + j) (.int .u8 (((T[j].toNat : Int) + 1) % 256))) HF.out.2.1)
            have HWS := hid (HQ.out.2.2.2.other (gb_set wr g (o + j) (.int .u8 (((T[j].toNat : Int) + 1) % 256))) (by have h1 : w5.heap.size < g := HF.out.1; omega) (fun e => by have h1 : g < g := HF.out.2.2 g e; omega))
            have HJ := hid hlt
            subst hA
            generalize T[j] = b at *
            have HS := hid (And.intro hset hnext)
            generalize (b.toNat : Int) = z at *
            clear hset hnext hMj hjL hjM hj hlt hg
            go_wp2
            go_roundg (60 - (j + 1))
            case measure => have := HK.out; have := HJ.out; have := HM.out.2; omega
            case rel => exact ⟨j + 1, _, rfl, HJ.out, congrArg (Value.int .i64) (show wrap64 ((j : Int) + 1) = ((j + 1 : Nat) : Int) by have h1 := HJ.out; have h2 := HM.out.2; unfold wrap64; omega), HS.out.1, HS.out.2, HPW.out, HWS.out⟩
          · have hlt2 : ¬ (j : Int) < (m : Int) := by omega
            clear hlt hj
            go_wp2
            go_loopg [14] 300 (fun k i wx => ∃ (t : Nat) (M : List UInt8), k = 300 - t ∧ t ≤ n ∧ i = .int .i64 t ∧ PB W wx A L M ∧ Dec L M t ∧ WS wx w5.heap.size W.heap.size v6 T)
            case atStart => exact ⟨0, _, rfl, Nat.zero_le _, rfl, HQ.out.2.2.1, Dec.start L, HQ.out.2.2.2⟩
            case round =>
              obtain ⟨t, N, hk, ht, rfl, hP, hI, hWS⟩ := hrel
              have HK2 := hid (And.intro hk ht)
              have HR := hid (And.intro hP (And.intro hI hWS))
              clear hk hP hI hWS HQ HK
              by_cases hlt : t < n
              · as_aux_lemma =>
                have hlt2 : (t : Int) < (n : Int) := by omega
                have h0 : (0 : Int) ≤ (t : Int) := by omega
                have hjL : t < L.length := by have := HL.out; omega
                have hjM : t < N.length := by have := HR.out.1.1; omega
                obtain ⟨hMj, hnext⟩ := HR.out.2.1.next hjL hjM
                obtain ⟨g, o, hA, hg, hcell, hfr, hset⟩ := HR.out.1.set t hjM L[t] _ (dec8 L[t])
                rw [hMj] at hcell
                have HWS := hid (HR.out.2.2.other (gb_set _ g (o + t) (.int .u8 ((((L[t] + 1).toNat : Int) - 1) % 256))) (by have := H5.out; omega) (fun e => by have := (World.ownsRow.lt HR.out.2.2.own g e).1; omega))
                have HJ := hid hlt
                subst hA
                generalize L[t] = b at *
                have HS := hid (And.intro hset hnext)
                generalize ((b + 1).toNat : Int) = z at *
                clear hset hnext hMj hjL hjM ht hlt hg
                go_wp2
                go_roundg (300 - (t + 1))
                case measure => have := HK2.out; have := HJ.out; have := HN.out.1; omega
                case rel => exact ⟨t + 1, _, rfl, HJ.out, congrArg (Value.int .i64) (show wrap64 ((t : Int) + 1) = ((t + 1 : Nat) : Int) by have h1 := HJ.out; have h2 := HN.out.1; unfold wrap64; omega), HS.out.1, HS.out.2, HWS.out⟩
              · have hlt3 : ¬ (t : Int) < (n : Int) := by omega
                have HE := hid (HR.out.2.1.stop (by have := HL.out; omega) HR.out.1.1)
                clear hlt ht
                go_wp2_with fail
                refine (wbytes_any w5.heap.size W.heap.size v6 T wr HR.out.2.2 (by have := HM.out; omega)).mono ?_
                rintro e w8 ⟨B8, rfl, hB8, hf8, hw8⟩
                have HP8 := HR.out.1.below hw8
                rw [HE.out] at HP8
                have hcv8 := conv_all w8 B8 T.length T hB8
                rw [HM.out.1] at hcv8
                have hcb8 := conv_o w8 A c L HP8.reads
                rw [HL.out] at hcb8
                have HP9 := hid (HP8.below (g_alloc g_refl (.cells #[.string s] 9)))
                have HP8 := hid HP8
                have HSL := hid (show SL (w8.alloc (.cells #[.string s] 9)) w8.heap.size 0 [s] from ⟨by simp, fun i hi => by
                  match i, hi with
                  | 0, _ => simp⟩)
                clear hB8 hf8 hw8 HR
                rw [HM.out.1]
                go_wp2_with fail
                refine (rtexts_any w8.heap.size 0 1 [s] _ HSL.out (by simp) (fun x hx => by
                  have e : x = s := by simpa using hx
                  subst e; have := HN.out.2; omega)).mono ?_
                rintro e w9 ⟨v9, rfl, ho9, hw9⟩
                obtain ⟨A9, c9, rfl⟩ := own_any ho9
                have HE9 : tforms [s] = T := by rw [← HTT.out]; simp [tforms]
                rw [HE9] at ho9
                have hcv9 := conv_all w9 A9 c9 T (own_byt ho9)
                rw [HM.out.1] at hcv9
                rw [HE9, HM.out.1]
                have HP10 := hid (HP9.out.below hw9)
                clear ho9 hw9 HE9 HP9 HP8 hcv8 hcb8
                go_wp2_with fail
                refine (lives_any w9).mono ?_
                rintro e w10 ⟨rfl, hw10⟩
                have HP11 := hid (HP10.out.below hw10)
                clear hw10 HP10
                go_wp2
                go_ret
                exact ⟨rfl, HP11.out.stop⟩
  · by_cases hb1 : L.length ≤ 300
    · have hm1 : ¬ (300 : Int) < (L.length : Int) := by omega
      have hm2 : (40 : Int) < (s.size : Int) := by omega
      generalize L.length = n at *
      clear hb1 hb
      go_enter Try.func6, Try.ntmps6
      go_wp2_with fail
      refine (lives_any W).mono ?_
      rintro e w1 ⟨rfl, hw1⟩
      have HW := hid hw1
      clear hw1
      go_wp2
      go_ret
      exact ⟨rfl, HW.out⟩
    · have hm1 : (300 : Int) < (L.length : Int) := by omega
      generalize L.length = n at *
      clear hb1 hb
      go_enter Try.func6, Try.ntmps6
      go_wp2_with fail
      refine (lives_any W).mono ?_
      rintro e w1 ⟨rfl, hw1⟩
      have HW := hid hw1
      clear hw1
      go_wp2
      go_ret
      exact ⟨rfl, HW.out⟩
end Go.Proofs.Ytohnhjmiblgkkaa
