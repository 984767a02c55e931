/-
  THE CONTRACTS of the law's same and whole, where the map's list is the reference's.
-/
import Derived.Test.YthkceffnfhdjhaaDRef
import Derived.Test.YthkceffnfhdjhaaDLives
namespace Go.Proofs.Ythkceffnfhdjhaa
open Go.RowKit Go.Deep

theorem rowP_at {w : World} {A : Option Addr} {l : List (Int × Int)} (h : DI.RowP w A l) {k : Nat} {p : Int × Int} (hk : l[k]? = some p) : ∃ g, A = some ⟨g, 0, none⟩ ∧ w.cell? ⟨g, k * 2, none⟩ = some (.int .i64 p.1) ∧ w.cell? ⟨g, k * 2 + 1, none⟩ = some (.int .i64 p.2) := by
  obtain ⟨g, arr, e, hg, hx⟩ := h (fun e => by subst e; cases hk)
  obtain ⟨e1, e2⟩ := hx k p hk
  rw [Nat.mul_comm] at e1 e2
  exact ⟨g, e, (DI.box_cell hg _).trans e1, (DI.box_cell hg _).trans e2⟩

set_option maxRecDepth 20000 in
set_option maxHeartbeats 4000000 in
theorem same_any (A A2 : Option Addr) (c : Nat) (l : List (Int × Int)) (w : World) (hP : DI.RowP w A l) (hQ : RowQ w A2 l) (hn : l.length ≤ 400000) :
    Calls Try.prog 22 #[.slice A l.length l.length, .slice A2 l.length c] w fun e w' => e = .returned (.int .i64 1) ∧ Below w.heap.size w w' := by
  have HP := hid hP
  have HQ := hid hQ
  clear hP hQ
  generalize hL : l.length = n at *
  have HLN := hid hL
  have HN := hid hn
  clear hL
  go_enter Try.func22, Try.ntmps22
  go_wp2
  go_loopg [5] n (fun m x wr => ∃ (i : Nat), m = n - i ∧ i ≤ n ∧ x = .int .i64 (i : Nat) ∧ Below w.heap.size w wr)
  case atStart => exact ⟨0, rfl, Nat.zero_le _, rfl, g_refl⟩
  case round =>
    obtain ⟨i, hm, hi, rfl, hw⟩ := hrel
    have HW := hid hw
    have HM := hid hm
    have b0 : (0 : Int) ≤ (i : Int) := by omega
    have b1 : (i : Int) ≤ 400000 := by have := HN.out; omega
    by_cases hlt : i < n
    · have hil : i < l.length := by rw [HLN.out]; exact hlt
      obtain ⟨⟨q, y⟩, hp⟩ : ∃ p, l[i]? = some p := ⟨_, List.getElem?_eq_getElem hil⟩
      obtain ⟨g, rfl, s0, s1⟩ := rowP_at (HP.out.below HW.out) hp
      obtain ⟨g2, rfl, t0, t1⟩ := (HQ.out.below HW.out).at_ hp
      have HLT := hid hlt
      have hlt' : (i : Int) < (n : Int) := by omega
      clear hil hp hlt hw hm hi
      go_wp2_with fail
      go_quiet (fail)
      have hd := g_trans HW.out (g_drewN (g_refl (a := wr)) nq)
      have HD := hid hd
      clear hd
      go_wp2
      go_roundg (n - (i + 1))
      case measure => rw [HM.out]; have := HLT.out; omega
      case rel => exact ⟨i + 1, rfl, HLT.out, by go_num, HD.out⟩
    · have hin : i = n := by omega
      subst hin
      have hni : ¬ (i : Int) < (i : Int) := by omega
      clear hlt HP HQ hw hm hi
      go_wp2
      go_ret
      exact ⟨rfl, HW.out⟩

abbrev oF : Value := .func (.func 9) #[] #[]
set_option maxRecDepth 20000 in
set_option maxHeartbeats 4000000 in
theorem whole_any (T : Tr Int) (A : Option Addr) (c : Nat) (l : List (Int × Int)) (w : World) (hM : DI.MapL id w T l) (hQ : RowQ w A l) (hn : l.length ≤ 4096) :
    Calls Try.prog 15 #[.agg #[.func (.func 9) #[] #[], .pointer T.ad], .slice A l.length c] w fun e w' => e = .returned (.int .i64 1) ∧ Below w.heap.size w w' := by
  have hA : Below w.heap.size w (w.alloc (.cells #[.func (.func 9) #[] #[], .pointer T.ad] 26 (0, 0))) := g_alloc g_refl _
  have HA := hid hA
  have hbp := DI.box2p w (.func (.func 9) #[] #[]) (.pointer T.ad) 26
  have HMp := hid (hM.below hA)
  have HQ := hid (hQ.below hA)
  have h16 : T.dp ≤ 16 := Tr.bal_16 hM.bal (by rw [hM.sz]; exact hn)
  have hle : Tr.lst T.dp ≤ l.length := by have := Tr.bal_lst hM.bal; rw [hM.sz] at this; exact this
  have hpos : 0 < l.length → 1 ≤ T.dp := fun h => by
    rcases Nat.eq_zero_or_pos T.dp with h0 | h0
    · have := sz_pow T; rw [h0, hM.sz, Nat.pow_zero] at this; omega
    · exact h0
  have HLEN := hid (fun W (h : DI.MapL id W T l) => DI.len_l 9 h)
  have HDEP := hid (fun W (h : DI.MapL id W T l) => DI.depth_l 9 h)
  have HALL := hid (fun W (h : DI.MapL id W T l) => DI.all_l 9 h (by omega))
  have HSAME := hid (fun W A1 (h1 : DI.RowP W A1 l) (h2 : RowQ W A l) => same_any A1 A c l W h1 h2 (by omega))
  have HLST := hid (fun W => least_any T.dp W (by omega))
  generalize hd : T.dp = d at *
  generalize hln : l.length = n at *
  generalize hls : Tr.lst d = s at *
  obtain ⟨c0, c1⟩ := hbp
  have i1 : decide ((16 : Int) < (d : Int)) = false := by simp; omega
  have i2 : decide (n < s) = false := by simp; omega
  have i3 : ¬ (16 : Int) < (d : Int) := by omega
  have HLN := hid hln
  by_cases h0 : 0 < n
  · have j1 : decide (0 < n) = true := by simp; omega
    have j0 : decide (n = 0) = false := by simp; omega
    have j2 : decide ((d : Int) < 1) = false := by have := hpos h0; simp; omega
    clear hM hQ hn h16 hle hpos hd hln hls hA h0 i3
    go_enter Try.func15, Try.ntmps15
    go_wp2_with fail
    refine (HLEN.out _ HMp.out).mono ?_
    rintro _ wn ⟨rfl, hb⟩
    replace c0 := DI.keep1 hb c0
    replace c1 := DI.keep1 hb c1
    replace HA := hid (g_trans HA.out hb)
    replace HMp := hid (HMp.out.below hb)
    replace HQ := hid (HQ.out.below hb)
    clear hb
    go_wp2_with fail
    refine (HDEP.out _ HMp.out).mono ?_
    rintro _ wn ⟨rfl, hb⟩
    replace c0 := DI.keep1 hb c0
    replace c1 := DI.keep1 hb c1
    replace HA := hid (g_trans HA.out hb)
    replace HMp := hid (HMp.out.below hb)
    replace HQ := hid (HQ.out.below hb)
    clear hb
    go_wp2_with fail
    refine (HDEP.out _ HMp.out).mono ?_
    rintro _ wn ⟨rfl, hb⟩
    replace c0 := DI.keep1 hb c0
    replace c1 := DI.keep1 hb c1
    replace HA := hid (g_trans HA.out hb)
    replace HMp := hid (HMp.out.below hb)
    replace HQ := hid (HQ.out.below hb)
    clear hb
    go_wp2_with fail
    refine (HLST.out _).mono ?_
    rintro _ _ ⟨rfl, rfl⟩
    go_wp2_with fail
    refine (HDEP.out _ HMp.out).mono ?_
    rintro _ wn ⟨rfl, hb⟩
    replace c0 := DI.keep1 hb c0
    replace c1 := DI.keep1 hb c1
    replace HA := hid (g_trans HA.out hb)
    replace HMp := hid (HMp.out.below hb)
    replace HQ := hid (HQ.out.below hb)
    clear hb
    go_wp2_with fail
    refine (HALL.out _ HMp.out).mono ?_
    rintro _ wn ⟨A1, rfl, hr, hb⟩
    replace HA := hid (g_trans HA.out hb)
    replace HQ := hid (HQ.out.below hb)
    have HR := hid hr
    have hln := HLN.out
    rw [hln]
    clear hb c0 c1 hr hln
    go_wp2_with fail
    refine (HSAME.out _ A1 HR.out HQ.out).mono ?_
    rintro _ wz ⟨rfl, hb⟩
    replace HA := hid (g_trans HA.out hb)
    clear hb
    go_wp2
    go_ret
    exact ⟨rfl, HA.out⟩
  · have j1 : decide (0 < n) = false := by simp; omega
    clear hM hQ hn h16 hle hpos hd hln hls hA h0 i3
    go_enter Try.func15, Try.ntmps15
    go_wp2_with fail
    refine (HLEN.out _ HMp.out).mono ?_
    rintro _ wn ⟨rfl, hb⟩
    replace c0 := DI.keep1 hb c0
    replace c1 := DI.keep1 hb c1
    replace HA := hid (g_trans HA.out hb)
    replace HMp := hid (HMp.out.below hb)
    replace HQ := hid (HQ.out.below hb)
    clear hb
    go_wp2_with fail
    refine (HDEP.out _ HMp.out).mono ?_
    rintro _ wn ⟨rfl, hb⟩
    replace c0 := DI.keep1 hb c0
    replace c1 := DI.keep1 hb c1
    replace HA := hid (g_trans HA.out hb)
    replace HMp := hid (HMp.out.below hb)
    replace HQ := hid (HQ.out.below hb)
    clear hb
    go_wp2_with fail
    refine (HDEP.out _ HMp.out).mono ?_
    rintro _ wn ⟨rfl, hb⟩
    replace c0 := DI.keep1 hb c0
    replace c1 := DI.keep1 hb c1
    replace HA := hid (g_trans HA.out hb)
    replace HMp := hid (HMp.out.below hb)
    replace HQ := hid (HQ.out.below hb)
    clear hb
    go_wp2_with fail
    refine (HLST.out _).mono ?_
    rintro _ _ ⟨rfl, rfl⟩
    go_wp2_with fail
    refine (HALL.out _ HMp.out).mono ?_
    rintro _ wn ⟨A1, rfl, hr, hb⟩
    replace HA := hid (g_trans HA.out hb)
    replace HQ := hid (HQ.out.below hb)
    have HR := hid hr
    have hln := HLN.out
    rw [hln]
    clear hb c0 c1 hr hln
    go_wp2_with fail
    refine (HSAME.out _ A1 HR.out HQ.out).mono ?_
    rintro _ wz ⟨rfl, hb⟩
    replace HA := hid (g_trans HA.out hb)
    clear hb
    go_wp2
    go_ret
    exact ⟨rfl, HA.out⟩
end Go.Proofs.Ythkceffnfhdjhaa
