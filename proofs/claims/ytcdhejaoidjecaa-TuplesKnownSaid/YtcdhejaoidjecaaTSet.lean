/-
  THE CONTRACTS of tuples.Union, Common, Without, and of slices.BinarySearchFunc and tuples.Find.
-/
import Derived.Test.YtcdhejaoidjecaaTCho
import Derived.Laws.BitsLemmas
namespace Go.Proofs.Ytcdhejaoidjecaa
open Go.RowKit Go.Sort

set_option maxHeartbeats 400000 in
theorem union_no (u v : Value) (k : Int) (w : World) (h : Calls Try.prog 32 #[u, v, .func (.func 33) #[] #[]] w (Refuses k w)) :
    Calls Try.prog 9 #[u, v] w (Refuses k w) := by
  go_enter Try.func9, Try.ntmps9
  go_wp2_with fail
  refine h.mono ?_
  rintro e w' ⟨rfl, hw⟩
  go_wp2
  go_ret2
  exact ⟨rfl, hw⟩
set_option maxHeartbeats 400000 in
theorem union_yes (A B : Option Addr) (la lb : List Tup) (ca cb : Nat) (w : World) (hR : Row w A la) (hS : Row w B lb) (hca : la.length ≤ ca) (hcb : lb.length ≤ cb) (ha : la.length ≤ 4096) (hb : lb.length ≤ 4096) (h1 : isB cmpT la = true) (h2 : isB cmpT lb = true) :
    Calls Try.prog 9 #[.slice A la.length ca, .slice B lb.length cb] w (Pairs w (chs cmpT (fun p q => p || q) la lb)) := by
  have h := choose_good _ _ picks_union A B la lb ca cb w hR hS hca hcb ha hb h1 h2
  clear hR hS h1 h2
  generalize chs cmpT (fun p q => p || q) la lb = L at *
  go_enter Try.func9, Try.ntmps9
  go_wp2_with fail
  refine h.mono ?_
  rintro e w' ⟨A3, rfl, hR3, hgw, hA3, hA4⟩
  clear h
  go_wp2
  go_ret2
  exact ⟨A3, rfl, hR3, hgw, hA3, hA4⟩
set_option maxHeartbeats 400000 in
theorem common_no (u v : Value) (k : Int) (w : World) (h : Calls Try.prog 32 #[u, v, .func (.func 34) #[] #[]] w (Refuses k w)) :
    Calls Try.prog 10 #[u, v] w (Refuses k w) := by
  go_enter Try.func10, Try.ntmps10
  go_wp2_with fail
  refine h.mono ?_
  rintro e w' ⟨rfl, hw⟩
  go_wp2
  go_ret2
  exact ⟨rfl, hw⟩
set_option maxHeartbeats 400000 in
theorem common_yes (A B : Option Addr) (la lb : List Tup) (ca cb : Nat) (w : World) (hR : Row w A la) (hS : Row w B lb) (hca : la.length ≤ ca) (hcb : lb.length ≤ cb) (ha : la.length ≤ 4096) (hb : lb.length ≤ 4096) (h1 : isB cmpT la = true) (h2 : isB cmpT lb = true) :
    Calls Try.prog 10 #[.slice A la.length ca, .slice B lb.length cb] w (Pairs w (chs cmpT (fun p q => p && q) la lb)) := by
  have h := choose_good _ _ picks_common A B la lb ca cb w hR hS hca hcb ha hb h1 h2
  clear hR hS h1 h2
  generalize chs cmpT (fun p q => p && q) la lb = L at *
  go_enter Try.func10, Try.ntmps10
  go_wp2_with fail
  refine h.mono ?_
  rintro e w' ⟨A3, rfl, hR3, hgw, hA3, hA4⟩
  clear h
  go_wp2
  go_ret2
  exact ⟨A3, rfl, hR3, hgw, hA3, hA4⟩
set_option maxHeartbeats 400000 in
theorem without_no (u v : Value) (k : Int) (w : World) (h : Calls Try.prog 32 #[u, v, .func (.func 35) #[] #[]] w (Refuses k w)) :
    Calls Try.prog 11 #[u, v] w (Refuses k w) := by
  go_enter Try.func11, Try.ntmps11
  go_wp2_with fail
  refine h.mono ?_
  rintro e w' ⟨rfl, hw⟩
  go_wp2
  go_ret2
  exact ⟨rfl, hw⟩
set_option maxHeartbeats 400000 in
theorem without_yes (A B : Option Addr) (la lb : List Tup) (ca cb : Nat) (w : World) (hR : Row w A la) (hS : Row w B lb) (hca : la.length ≤ ca) (hcb : lb.length ≤ cb) (ha : la.length ≤ 4096) (hb : lb.length ≤ 4096) (h1 : isB cmpT la = true) (h2 : isB cmpT lb = true) :
    Calls Try.prog 11 #[.slice A la.length ca, .slice B lb.length cb] w (Pairs w (chs cmpT (fun p q => p && !q) la lb)) := by
  have h := choose_good _ _ picks_without A B la lb ca cb w hR hS hca hcb ha hb h1 h2
  clear hR hS h1 h2
  generalize chs cmpT (fun p q => p && !q) la lb = L at *
  go_enter Try.func11, Try.ntmps11
  go_wp2_with fail
  refine h.mono ?_
  rintro e w' ⟨A3, rfl, hR3, hgw, hA3, hA4⟩
  clear h
  go_wp2
  go_ret2
  exact ⟨A3, rfl, hR3, hgw, hA3, hA4⟩

theorem hs' {m x : Tup} {v : Int} (hv : cmpT m x = v) (h : 0 ≤ v) (h2 : cmpT m x < 0) : False := by omega
theorem found_at {l : List Tup} {x : Tup} {i : Nat} (hi : fnd cmpT l x = i) (hil : i < l.length) (hA : Asc cmpT l) {v : Int} (hv : cmpT l[i] x = v) {z : Bool} (hz : (v == 0) = z) : decide (x ∈ l) = z := by
  have h := fnd_mem tot hA x
  subst hi; subst hv; subst hz
  by_cases hm : x ∈ l
  · obtain ⟨_, e⟩ := h.2 hm
    rw [decide_eq_true hm, e]; rfl
  · rw [decide_eq_false hm]
    refine (beq_eq_false_iff_ne.2 fun e => hm (h.1 ⟨hil, e⟩)).symm
theorem found_no {l : List Tup} {x : Tup} {i : Nat} (hi : fnd cmpT l x = i) (hil : ¬ i < l.length) (hA : Asc cmpT l) : decide (x ∈ l) = false :=
  decide_eq_false fun hm => by
    obtain ⟨h1, _⟩ := (fnd_mem tot hA x).2 hm
    omega

set_option maxRecDepth 100000 in
set_option maxHeartbeats 2000000 in
theorem bsearch (A : Option Addr) (l : List Tup) (c : Nat) (x : Tup) (w : World) (hR : Row w A l) (hA : Asc cmpT l) (hn : l.length ≤ 9000) :
    Calls Try.prog 37 #[.slice A l.length c, val x, .func (.func 7) #[] #[]] w
      fun e w' => e = .returned (.tuple #[.int .i64 (fnd cmpT l x), .bool (decide (x ∈ l))]) ∧ Grew w w' := by
  have hmx := mixed
  have HA := hid hA; clear hA
  show Calls _ _ #[.slice A l.length c, .agg #[.string x.a, .string x.b, .string x.c, .string x.d, .string x.e, .string x.f], _] _ _
  go_enter Try.func37, Try.ntmps37
  go_wp2
  go_loopw [9, 10] (fun vi vj wr => ∃ i j : Nat, i ≤ j ∧ j ≤ l.length ∧ i ≤ fnd cmpT l x ∧ fnd cmpT l x ≤ j ∧ vi = .int .i64 i ∧ vj = .int .i64 j ∧ Grew (w.alloc (.cells #[.string x.a, .string x.b, .string x.c, .string x.d, .string x.e, .string x.f] 30)) wr) (fun vi vj _ => (intOf vj - intOf vi).toNat)
  case atStart => exact ⟨0, l.length, Nat.zero_le _, Nat.le_refl _, Nat.zero_le _, fnd_le l x, rfl, rfl, gw_refl⟩
  case round =>
    obtain ⟨i, j, hij, hjl, hif, hfj, rfl, rfl, hw⟩ := hrel
    have hIF := hid hif; clear hif
    have hFJ := hid hfj; clear hfj
    obtain ⟨p0, p1, p2, p3, p4, p5⟩ := (six_box w x _).gw (by simp) hw
    by_cases hlt : i < j
    · obtain ⟨m, hm⟩ : ∃ m, (i + j) / 2 = m := ⟨_, rfl⟩
      have hmi : i ≤ m := by omega
      have hmj : m < j := by omega
      have hml : m < l.length := by omega
      obtain ⟨b, o, rfl, hL⟩ := ((hR.gw (gw_alloc gw_refl _)).gw hw).at_ hml
      obtain ⟨q0, q1, q2, q3, q4, q5⟩ := hL.six hml
      clear hR hL
      obtain ⟨v, hv⟩ : ∃ v, cmpT l[m] x = v := ⟨_, rfl⟩
      have HV := hid hv; clear hv
      have hm2 : ((i : Int) + (j : Int)) / 2 = (m : Int) := by omega
      clear hm
      by_cases hs : v < 0
      · go_wp2_with fail
        go_quiet_grown (first | (go_at_call 7; exact tcmp_q l[m] x v HV.out _ _ _))
        go_wp2
        go_roundw
        case rel => exact ⟨m + 1, j, by omega, hjl, (fnd_lt tot HA.out x m hml).1 (by rw [HV.out]; exact hs), hFJ.out, by go_num, rfl, gw_grow (gw_drewN hw _) _⟩
        case measure => simp [intOf]; omega
      · go_wp2_with fail
        go_quiet_grown (first | (go_at_call 7; exact tcmp_q l[m] x v HV.out _ _ _))
        go_wp2
        go_roundw
        case rel => exact ⟨i, m, hmi, by omega, hIF.out, Nat.le_of_not_lt fun h => hs' HV.out (by omega) ((fnd_lt tot HA.out x m hml).2 h), rfl, rfl, gw_grow (gw_drewN hw _) _⟩
        case measure => simp [intOf]; omega
    · have hfi : Hid (fnd cmpT l x = i) := by show _ = _; have := hIF.out; have := hFJ.out; omega
      by_cases hil : i < l.length
      · obtain ⟨b, o, rfl, hL⟩ := ((hR.gw (gw_alloc gw_refl _)).gw hw).at_ hil
        obtain ⟨q0, q1, q2, q3, q4, q5⟩ := hL.six hil
        clear hR hL
        obtain ⟨v, hv⟩ : ∃ v, cmpT l[i] x = v := ⟨_, rfl⟩
        obtain ⟨z, hz⟩ : ∃ z, (v == 0) = z := ⟨_, rfl⟩
        have HM := hid (found_at hfi.out hil HA.out hv hz)
        have HV := hid hv; clear hv
        go_wp2_with fail
        go_quiet_grown (first | (go_at_call 7; exact tcmp_q l[i] x v HV.out _ _ _))
        go_wp2
        go_ret2
        exact ⟨by rw [hfi.out, HM.out]; rfl, gw_trans (gw_alloc gw_refl _) (gw_grow (gw_drewN hw _) _)⟩
      · have HM := hid (found_no hfi.out hil HA.out)
        have hd : decide ((i : Int) < (l.length : Int)) = false := decide_eq_false (by omega)
        have hij2 : (l.length : Int) ≤ (i : Int) := by omega
        go_wp2_with fail
        go_quiet (fail)
        go_wp2
        go_ret2
        exact ⟨by rw [hfi.out, HM.out]; rfl, gw_trans (gw_alloc gw_refl _) (gw_drewN hw _)⟩

set_option maxHeartbeats 800000 in
theorem tfind (A : Option Addr) (l : List Tup) (c : Nat) (x : Tup) (w : World) (hR : Row w A l) (hA : isB cmpT l = true) (hn : l.length ≤ 9000) :
    Calls Try.prog 12 #[.slice A l.length c, val x] w
      fun e w' => e = .returned (.tuple #[.int .i64 (fnd cmpT l x), .bool (decide (x ∈ l))]) ∧ Grew w w' := by
  have HA := hid ((isB_asc tot l).1 hA)
  have HB := hid hA; clear hA
  have HL : Hid (l.length ≤ maxLen) := Nat.le_trans hn (by decide)
  show Calls _ _ #[.slice A l.length c, .agg #[.string x.a, .string x.b, .string x.c, .string x.d, .string x.e, .string x.f]] _ _
  go_enter Try.func12, Try.ntmps12
  go_wp2_with fail
  refine (tis_v A l c true _ (hR.gw (gw_alloc gw_refl _)) HL.out HB.out).mono ?_
  rintro e w1 ⟨rfl, hw1⟩
  obtain ⟨p0, p1, p2, p3, p4, p5⟩ := ((six_box w x _).gw (by simp) hw1).at0
  go_wp2_with fail
  refine (bsearch A l c x _ ((hR.gw (gw_alloc gw_refl _)).gw hw1) HA.out hn).mono ?_
  rintro e w2 ⟨rfl, hw2⟩
  go_wp2
  go_ret2
  exact ⟨rfl, gw_trans (gw_trans (gw_alloc gw_refl _) hw1) hw2⟩
set_option maxHeartbeats 800000 in
theorem tfind_no (A : Option Addr) (l : List Tup) (c : Nat) (x : Tup) (w : World) (hR : Row w A l) (hA : isB cmpT l = false) (hn : l.length ≤ maxLen) :
    Calls Try.prog 12 #[.slice A l.length c, val x] w
      fun e w' => e = .returned (.tuple #[.int .i64 0, .bool false]) ∧ Grew w w' := by
  have HB := hid hA; clear hA
  have HL := hid hn; clear hn
  show Calls _ _ #[.slice A l.length c, .agg #[.string x.a, .string x.b, .string x.c, .string x.d, .string x.e, .string x.f]] _ _
  go_enter Try.func12, Try.ntmps12
  go_wp2_with fail
  refine (tis_v A l c false _ (hR.gw (gw_alloc gw_refl _)) HL.out HB.out).mono ?_
  rintro e w1 ⟨rfl, hw1⟩
  go_wp2
  go_ret2
  exact ⟨rfl, gw_trans (gw_alloc gw_refl _) hw1⟩

end Go.Proofs.Ytcdhejaoidjecaa
