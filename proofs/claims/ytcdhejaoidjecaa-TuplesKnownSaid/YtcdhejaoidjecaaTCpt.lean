/-
  THE CONTRACT of slices.Compact at tuples, and of tuples.cut.
-/
import Derived.Test.YtcdhejaoidjecaaTBlk
namespace Go.Proofs.Ytcdhejaoidjecaa
open Go.RowKit Go.Sort

theorem cpt_same : ∀ (l : List Tup) (k : Nat) (h : k + 1 < l.length), l[k] = l[k + 1] → cpt (l.take (k + 2)) = cpt (l.take (k + 1))
  | [x], k, h, _ => by simp at h
  | x :: y :: r, 0, _, e => by
    have e : x = y := e
    subst e
    simp [cpt]
  | x :: y :: r, k + 1, h, e => by
    have ih := cpt_same (y :: r) k (by simpa using h) e
    rw [List.take_succ_cons, List.take_succ_cons, List.take_succ_cons, List.take_succ_cons] at *
    rw [cpt, cpt, ih]
theorem cpt_new : ∀ (l : List Tup) (k : Nat) (h : k + 1 < l.length), ¬ l[k] = l[k + 1] → cpt (l.take (k + 2)) = cpt (l.take (k + 1)) ++ [l[k + 1]]
  | [x], k, h, _ => by simp at h
  | x :: y :: r, 0, _, e => by
    have e : ¬ x = y := e
    simp [cpt, e]
  | x :: y :: r, k + 1, h, e => by
    have ih := cpt_new (y :: r) k (by simpa using h) e
    rw [List.take_succ_cons, List.take_succ_cons, List.take_succ_cons, List.take_succ_cons] at *
    rw [cpt, cpt, ih]
    split <;> simp
theorem cpt_len : ∀ l : List Tup, (cpt l).length ≤ l.length
  | [] => Nat.le_refl _
  | [x] => Nat.le_refl _
  | x :: y :: r => by
    unfold cpt
    have := cpt_len (y :: r)
    split
    · rw [List.length_cons]; omega
    · rw [List.length_cons, List.length_cons]; omega
theorem cpt_short {l : List Tup} (h : l.length < 2) : cpt l = l := by
  match l, h with
  | [], _ => rfl
  | [x], _ => rfl
  | x :: y :: r, h => simp at h; omega

/-- what Compact leaves -/
def CptRet (base : Nat) (A : Option Addr) (c : Nat) (l : List Tup) (w : World) (e : Ending) (w' : World) : Prop :=
  e = .returned (.slice A (cpt l).length c) ∧ Own w' base (.slice A (cpt l).length c) (cpt l) ∧ (∃ row, w.grownBy w' row ∧ ∀ k, row = some k → base ≤ k) ∧ w.drawn ≤ w'.drawn
theorem Touch.ret {w w' : World} {g base : Nat} (h : Touch w w' g) (hb : base ≤ g) : (∃ row, w.grownBy w' row ∧ ∀ k, row = some k → base ≤ k) ∧ w.drawn ≤ w'.drawn :=
  ⟨⟨some g, h.togrownBy, fun k hk => by injection hk with e; omega⟩, h.drawn⟩
/-- the cells of tuple i, at an offset spelled otherwise -/
theorem Cel.six {w : World} {g cap : Nat} {d : List Tup} (h : Cel w g cap d) {i : Nat} (hi : i < d.length) (o : Nat) (ho : o = i * 6) : Six w g o d[i] := by
  subst ho
  exact six_of h.lt fun c v hv => h.cell hi hv

theorem fin_len {d l : List Tup} {k n : Nat} (hd : d.length = n) (hk : k ≤ n) (h : d.take k = cpt (l.take n)) (hl : l.length = n) : k = (cpt l).length ∧ d.take k = cpt l := by
  rw [List.take_of_length_le (l := l) (by omega)] at h
  have := congrArg List.length h
  rw [List.length_take] at this
  exact ⟨by omega, h⟩
theorem take_set {d : List Tup} {k : Nat} (hk : k < d.length) (x : Tup) : (d.set k x).take (k + 1) = d.take k ++ [x] := by
  rw [List.take_succ_eq_append_getElem (by rw [List.length_set]; exact hk), List.getElem_set_self, List.take_set_of_le (Nat.le_refl _)]
theorem drop_set {d l : List Tup} {k : Nat} (h : d.drop k = l.drop k) (x : Tup) : (d.set k x).drop (k + 1) = l.drop (k + 1) := by
  rw [List.drop_set_of_lt (by omega)]
  have := congrArg (List.drop 1) h
  rwa [List.drop_drop, List.drop_drop] at this
theorem at_drop {d l : List Tup} {k i : Nat} (h : d.drop k = l.drop k) (hk : k ≤ i) (hd : i < d.length) (hl : i < l.length) : d[i] = l[i] := by
  have h1 := congrArg (·[i - k]?) h
  simp only [List.getElem?_drop] at h1
  rw [show k + (i - k) = i by omega, List.getElem?_eq_getElem hd, List.getElem?_eq_getElem hl] at h1
  injection h1

set_option maxRecDepth 100000 in
set_option maxHeartbeats 4000000 in
theorem tcompact (base : Nat) (A : Option Addr) (c : Nat) (l : List Tup) (w : World) (hown : Own w base (.slice A l.length c) l) (hn : l.length ≤ 9000) :
    Calls Try.prog 70 #[.slice A l.length c] w (CptRet base A c l w) := by
  have hmx := mixed
  by_cases h2 : l.length < 2
  · have HC := hid (cpt_short h2)
    go_enter Try.func70, Try.ntmps70
    go_wp2
    go_ret
    exact ⟨by rw [HC.out]; rfl, by rw [HC.out]; exact hown, ⟨none, ⟨rfl, rfl, rfl, Nat.le_refl _, fun _ _ _ => rfl⟩, fun _ h => by cases h⟩, Nat.le_refl _⟩
  · obtain ⟨g, rfl, hbg, hC⟩ := cel_of_own (by intro e; subst e; simp at h2) hown
    clear hown
    have hcm := hC.2.1
    have hcl := hC.1
    unfold maxLen at hcm
    obtain ⟨n, hnl⟩ : ∃ n, l.length = n := ⟨_, rfl⟩
    rw [hnl] at h2 hn hcl ⊢
    have HN := hid hnl; clear hnl
    go_enter Try.func70, Try.ntmps70
    go_wp2
    go_loopw [3] (fun i wr => ∃ k : Nat, k + 1 ≤ n ∧ i = .int .i64 ((k : Int) + 1) ∧ cpt (l.take (k + 1)) = l.take (k + 1) ∧ Cel wr g c l ∧ Touch w wr g) (fun i _ => n - (intOf i).toNat)
    case atStart => exact ⟨0, by omega, rfl, by rw [cpt_short (by rw [List.length_take]; omega)], hC, Touch.refl _ _⟩
    case round =>
      obtain ⟨k, hk, rfl, hx, hCr, hT⟩ := hrel
      have HX := hid hx; clear hx
      by_cases hlt : k + 1 < n
      · have hl1 : k + 1 < l.length := by have := HN.out; omega
        obtain ⟨p0, p1, p2, p3, p4, p5⟩ := (hCr.six (i := k) (by omega) (k * 6) rfl).at0
        obtain ⟨q0, q1, q2, q3, q4, q5⟩ := (hCr.six (i := k + 1) hl1 ((k + 1) * 6) rfl).at0
        obtain ⟨v, hv⟩ : ∃ v, decide (l[k + 1] = l[k]) = v := ⟨_, rfl⟩
        have HV := hid hv; clear hv
        have b0 : (0 : Int) ≤ (k : Int) := by omega
        have b1 : (k : Int) < (n : Int) := by omega
        have b2 : (k : Int) + 1 < (n : Int) := by omega
        have b3 : (0 : Int) ≤ (k : Int) + 1 := by omega
        have e1 : ((k : Int) + 1).toNat = k + 1 := by omega
        have e2 : IntKind.i64.wrap (k : Int) = (k : Int) := IntWalk.i64_in _ (by omega)
        have hck : ¬ c = k + 1 := by omega
        have hkc : k + 1 ≤ c := by omega
        go_wp2_with fail
        refine wp_region_quiet_lit (by kernel_rfl) (by kernel_rfl) ?_
        repeat (quiet_step (fail))
        refine quiet_eql l[k + 1] l[k] v HV.out rfl rfl rfl rfl ?_
        refine wpQuiet_nil ?_
        rintro _ ⟨nq, rfl⟩
        have hCr2 : Cel (wr.drewN nq) g c l := hCr
        have hT2 : Touch w (wr.drewN nq) g := hT.drewN nq
        clear p0 p1 p2 p3 p4 p5 q0 q1 q2 q3 q4 q5 hCr hT
        generalize wr.drewN nq = w1 at *
        cases v
        · go_wp2
          go_roundw
          case rel => exact ⟨k + 1, by omega, by go_num, by rw [cpt_new l k hl1 (fun e => by have := of_decide_eq_false HV.out; exact this e.symm), HX.out, List.take_succ_eq_append_getElem hl1], hCr2, hT2⟩
          case measure => simp [intOf]; omega
        · have HS : Hid (cpt (l.take (k + 1 + 1)) = l.take (k + 1)) := (cpt_same l k hl1 (of_decide_eq_true HV.out).symm).trans HX.out
          have e3 : ((k : Int) + 1).toNat = k + 1 := by omega
          go_wp2
          go_loopw [3, 5] (fun ik ij wr => ∃ (kk j : Nat) (d : List Tup), ik = .int .i64 kk ∧ ij = .int .i64 ((j : Int) + 1) ∧ k + 1 + j + 1 ≤ n ∧ kk ≤ k + 1 + j ∧ d.length = n ∧ d.take kk = cpt (l.take (k + 1 + j + 1)) ∧ d.drop kk = l.drop kk ∧ Cel wr g c d ∧ Touch w wr g) (fun _ ij _ => n - (intOf ij).toNat)
          case atStart => exact ⟨k + 1, 0, l, by go_num, by go_num, by omega, by omega, HN.out, HS.out.symm, rfl, hCr2, hT2⟩
          case round =>
            clear hCr2 hT2
            obtain ⟨kk, j, d, rfl, rfl, hj, hkk, hd, htk, hdr, hCq, hTq⟩ := hrel
            have HTK := hid htk; clear htk
            have HDR := hid hdr; clear hdr
            have HD := hid hd; clear hd
            by_cases hjn : k + 1 + j + 1 < n
            · have hl2 : k + 1 + j + 1 < l.length := by have := HN.out; omega
              have hd2 : k + 1 + j + 1 < d.length := by have := HD.out; omega
              have hdk : kk < d.length := by omega
              obtain ⟨p0, p1, p2, p3, p4, p5⟩ := (hCq.six (i := k + 1 + j) (by omega) ((k + 1) * 6 + j * 6) (by omega)).at0
              obtain ⟨q0, q1, q2, q3, q4, q5⟩ := (hCq.six (i := k + 1 + j + 1) hd2 ((k + 1) * 6 + (j + 1) * 6) (by omega)).at0
              obtain ⟨r0, r1, r2, r3, r4, r5⟩ := (hCq.six (i := kk) hdk (kk * 6) rfl).at0
              have f0 := hCq.frozen (kk * 6)
              have f1 := hCq.frozen (kk * 6 + 1)
              have f2 := hCq.frozen (kk * 6 + 2)
              have f3 := hCq.frozen (kk * 6 + 3)
              have f4 := hCq.frozen (kk * 6 + 4)
              have f5 := hCq.frozen (kk * 6 + 5)
              have g1 : d[k + 1 + j] = l[k + 1 + j] := at_drop HDR.out hkk (by omega) (by omega)
              have g2 : d[k + 1 + j + 1] = l[k + 1 + j + 1] := at_drop HDR.out (by omega) hd2 hl2
              obtain ⟨v, hv⟩ : ∃ v, decide (d[k + 1 + j + 1] = d[k + 1 + j]) = v := ⟨_, rfl⟩
              have HV := hid hv; clear hv
              have G1 := hid g1; clear g1
              have G2 := hid g2; clear g2
              have m0 : (0 : Int) ≤ (j : Int) := by omega
              have m1 : (j : Int) < ((n - (k + 1) : Nat) : Int) := by omega
              have m2 : (j : Int) + 1 < ((n - (k + 1) : Nat) : Int) := by omega
              have m3 : (0 : Int) ≤ (j : Int) + 1 := by omega
              have m4 : ((j : Int) + 1).toNat = j + 1 := by omega
              have m5 : IntKind.i64.wrap (j : Int) = (j : Int) := IntWalk.i64_in _ (by omega)
              go_wp2_with fail
              refine wp_region_quiet_lit (by kernel_rfl) (by kernel_rfl) ?_
              repeat (quiet_step (fail))
              refine quiet_neq d[k + 1 + j + 1] d[k + 1 + j] v HV.out rfl rfl rfl rfl ?_
              refine wpQuiet_nil ?_
              rintro _ ⟨nq, rfl⟩
              cases v
              · have HP := hid (cpt_new l (k + 1 + j) hl2 (fun e => by have := of_decide_eq_false HV.out; rw [G1.out, G2.out] at this; exact this e.symm))
                go_wp2
                have hCs : Cel ((wr.drewN nq).setCells g (kk * 6) (enc d[k + 1 + j + 1])) g c (d.set kk d[k + 1 + j + 1]) := Cel.put (hCq.drewN nq) _
                have hTs : Touch w ((wr.drewN nq).setCells g (kk * 6) (enc d[k + 1 + j + 1])) g := (hTq.drewN nq).sets _ _
                go_roundw
                case rel => exact ⟨kk + 1, j + 1, d.set kk d[k + 1 + j + 1], by go_num, by go_num, by omega, by omega, by rw [List.length_set]; exact HD.out, by rw [take_set hdk, HTK.out, G2.out]; exact HP.out.symm, drop_set HDR.out _, hCs, hTs⟩
                case measure => simp [intOf]; omega
              · have HP := hid (cpt_same l (k + 1 + j) hl2 (by have := of_decide_eq_true HV.out; rw [G1.out, G2.out] at this; exact this.symm))
                go_wp2
                go_roundw
                case rel => exact ⟨kk, j + 1, d, rfl, by go_num, by omega, by omega, HD.out, HTK.out.trans HP.out.symm, HDR.out, hCq.drewN nq, hTq.drewN nq⟩
                case measure => simp [intOf]; omega
            · have hjn2 : k + 1 + j + 1 = n := by omega
              obtain ⟨hkl, hkt⟩ := fin_len (k := kk) (n := n) HD.out (by omega) (by have := HTK.out; rw [hjn2] at this; exact this) HN.out
              have HKL := hid hkl; clear hkl
              have HKT := hid hkt; clear hkt
              have hkn : kk < n := by omega
              obtain ⟨vs, hvs⟩ := run_clearT hCq n kk (c - kk) hkn HD.out.symm
              have hck2 : ¬ c = kk := by omega
              have hkc2 : kk ≤ c := by omega
              have hm : ¬ (j : Int) + 1 < ((n - (k + 1) : Nat) : Int) := by omega
              clear hjn2 hjn
              go_wp2
              go_ret
              have hCs : Cel (wr.setCells g (kk * 6) vs) g c (d.take kk) := hCq.wipe vs
              have hTs : Touch w (wr.setCells g (kk * 6) vs) g := hTq.sets _ _
              rw [HKT.out] at hCs
              exact ⟨by rw [← HKL.out]; rfl, own_of_cel hbg hCs, hTs.ret hbg⟩
      · have HE : Hid (cpt l = l) := by have := HX.out; rwa [List.take_of_length_le (by have := HN.out; omega)] at this
        go_wp2
        go_ret
        exact ⟨by rw [HE.out, HN.out]; rfl, by rw [HE.out, HN.out]; have := own_of_cel hbg hCr; rwa [HN.out] at this, hT.ret hbg⟩

set_option maxHeartbeats 400000 in
/-- 'l[:len(l):len(l)]' -/
theorem tcut (A : Option Addr) (n c : Nat) (w : World) (hn : n ≤ c) :
    Calls Try.prog 66 #[.slice A n c] w fun e w' => e = .returned (.slice A n n) ∧ w = w' := by
  go_enter Try.func66, Try.ntmps66
  go_wp2
  go_ret
  exact ⟨rfl, rfl⟩
end Go.Proofs.Ytcdhejaoidjecaa
