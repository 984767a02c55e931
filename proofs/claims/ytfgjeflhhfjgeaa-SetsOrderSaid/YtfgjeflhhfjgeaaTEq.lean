/-
  THE CONTRACT of slices.Equal at tuples.
-/
import Derived.Test.YtfgjeflhhfjgeaaTRow
namespace Go.Proofs.Ytfgjeflhhfjgeaa
open Go.RowKit Go.Sort

theorem eq_len {l m : List Tup} (h : ¬ l.length = m.length) : decide (l = m) = false := decide_eq_false (fun e => h (by rw [e]))
theorem eq_no {l m : List Tup} {k : Nat} (hl : k < l.length) (hm : k < m.length) (hv : decide (l[k] = m[k]) = false) : decide (l = m) = false :=
  decide_eq_false (fun e => by subst e; simp at hv)
theorem eq_yes {l m : List Tup} {k : Nat} (hk : ¬ k < l.length) (he : l.length = m.length) (h : l.take k = m.take k) : decide (l = m) = true := by
  rw [List.take_of_length_le (by omega), List.take_of_length_le (by omega)] at h
  exact decide_eq_true h

set_option maxHeartbeats 800000 in
theorem equal_n (A B : Option Addr) (l m : List Tup) (n n' c d : Nat) (w : World) (hR : Row w A l) (hS : Row w B m) (hl : l.length = n) (hm : m.length = n') (hn : n ≤ 10000) :
    Calls Try.prog 36 #[.slice A n c, .slice B n' d] w fun e w' => e = .returned (.bool (decide (l = m))) ∧ Grew w w' := by
  have hmx := mixed
  by_cases he : n = n'
  · subst he
    have HE := hid (hl.trans hm.symm)
    have HL := hid hl; clear hl
    have HM := hid hm; clear hm
    go_enter Try.func36, Try.ntmps36
    go_wp2
    go_loopw [13] (fun i wr => ∃ k : Nat, k ≤ n ∧ i = .int .i64 k ∧ l.take k = m.take k ∧ Grew w wr) (fun i _ => n - (intOf i).toNat)
    case atStart => exact ⟨0, Nat.zero_le _, rfl, by simp, gw_refl⟩
    case round =>
      obtain ⟨k, hk, rfl, hx, hw⟩ := hrel
      have HX := hid hx; clear hx
      by_cases hlt : k < n
      · have hll : k < l.length := by have := HL.out; omega
        have hlm : k < m.length := by have := HM.out; omega
        obtain ⟨b, o, rfl, hL⟩ := (hR.gw hw).at_ hll
        obtain ⟨b2, o2, rfl, hM⟩ := (hS.gw hw).at_ hlm
        obtain ⟨p0, p1, p2, p3, p4, p5⟩ := hM.six hlm
        obtain ⟨q0, q1, q2, q3, q4, q5⟩ := hL.six hll
        clear hR hL hS hM
        obtain ⟨v, hv⟩ : ∃ v, decide (l[k] = m[k]) = v := ⟨_, rfl⟩
        have HV := hid hv; clear hv
        go_wp2_with fail
        refine wp_region_quiet_grown (by assumption) (by kernel_rfl) ?_
        repeat (quiet_step (fail))
        refine quiet_neq l[k] m[k] v HV.out rfl rfl rfl rfl ?_
        refine wpQuiet_nil ?_
        rintro _ ⟨⟨nq, osq⟩, rfl⟩
        cases v
        · go_wp2
          go_ret
          exact ⟨ret_bool (eq_no hll hlm HV.out).symm, gw_grow (gw_drewN hw _) _⟩
        · go_wp2
          go_roundw
          case rel => exact ⟨k + 1, by omega, by go_num, same_step hll hlm HX.out HV.out, gw_grow (gw_drewN hw _) _⟩
          case measure => simp [intOf]; omega
      · go_wp2
        go_ret
        exact ⟨ret_bool (eq_yes (by have := HL.out; omega) HE.out HX.out).symm, hw⟩
  · have he2 : ((n : Int) == (n' : Int)) = false := beq_eq_false_iff_ne.2 (by omega)
    have HE := hid (eq_len (l := l) (m := m) (by omega))
    clear he
    go_enter Try.func36, Try.ntmps36
    go_wp2
    go_ret
    exact ⟨ret_bool HE.out.symm, gw_refl⟩

end Go.Proofs.Ytfgjeflhhfjgeaa
