/-
  THE CONTRACTS of names.checkAll, Object, Goal, Subject, and of the reference's: 'err' of 'all fields are names'; what lay below stands.
-/
import Derived.Test.YtgfgfggoofjeeaaWCheck
import Derived.Deep.RegionHeld3
import Derived.Deep.QuietTactic
import Derived.BigQuiet
namespace Go.Proofs.Ytgfgfggoofjeeaa
open Go.RowKit

/-- the number of the error: 0, or ErrName -/
def err (b : Bool) : Int := if b then 0 else 6
/-- is a string a name? -/
def nb (s : ByteArray) : Bool := isName s.data.toList
theorem chk_err (s : ByteArray) : chk s.data.toList = err (nb s) := rfl
theorem err_max (a b : Bool) : max (err a) (err b) = err (a && b) := by cases a <;> cases b <;> rfl

theorem check_nb (s : ByteArray) (w : World) (hs : s.size ≤ maxLen) :
    Calls Try.prog 65 #[.string s] w fun e w' => e = .returned (.int .i64 (err (nb s))) ∧ w = w' := check_any s w hs
theorem rcheck_nb (s : ByteArray) (w : World) (hs : s.size ≤ maxLen) :
    Calls Try.prog 36 #[.string s] w fun e w' => e = .returned (.int .i64 (err (nb s))) ∧ w = w' := rcheck_any s w hs

theorem check_yes (s : ByteArray) (w : World) (hs : s.size ≤ maxLen) (hb : nb s = true) :
    Calls Try.prog 65 #[.string s] w fun e w' => e = .returned (.int .i64 0) ∧ w = w' := by
  have h := check_nb s w hs; rw [hb] at h; exact h
theorem check_no (s : ByteArray) (w : World) (hs : s.size ≤ maxLen) (hb : nb s = false) :
    Calls Try.prog 65 #[.string s] w fun e w' => e = .returned (.int .i64 6) ∧ w = w' := by
  have h := check_nb s w hs; rw [hb] at h; exact h

theorem all_step (ss : List ByteArray) (k : Nat) (h : k < ss.length) (ha : (ss.take k).all nb = true) (hb : nb ss[k] = true) : (ss.take (k + 1)).all nb = true := by
  rw [List.take_succ_eq_append_getElem h, List.all_append, ha]; simp [hb]
theorem all_end (ss : List ByteArray) (k : Nat) (h : ¬ k < ss.length) (ha : (ss.take k).all nb = true) : err (ss.all nb) = 0 := by
  rw [List.take_of_length_le (by omega)] at ha; rw [ha]; rfl
theorem all_bad (ss : List ByteArray) (k : Nat) (h : k < ss.length) (hb : nb ss[k] = false) : err (ss.all nb) = 6 := by
  have : ss.all nb = false := by
    rw [List.all_eq_false]; exact ⟨ss[k], List.getElem_mem h, by simp [hb]⟩
  rw [this]; rfl

set_option maxHeartbeats 400000 in
theorem checkAll_any (ss : List ByteArray) (b : Nat) (w : World) (hn : ss.length ≤ 100) (hs : ∀ k, (h : k < ss.length) → ss[k].size ≤ maxLen)
    (hc : ∀ k, (h : k < ss.length) → w.cell? ⟨b, k, none⟩ = some (.string ss[k])) :
    Calls Try.prog 87 #[.slice (some ⟨b, 0, none⟩) ss.length ss.length] w fun e w' => e = .returned (.int .i64 (err (ss.all nb))) ∧ w = w' := by
  have HC := hid hc; clear hc
  have HS := hid hs; clear hs
  go_enter Try.func87, Try.ntmps87
  go_wp2
  go_loop [8] (fun i => ∃ k : Nat, k ≤ ss.length ∧ i = .int .i64 k ∧ (ss.take k).all nb = true) (fun i => ss.length - (intOf i).toNat)
  case atStart => exact ⟨0, Nat.zero_le _, rfl, rfl⟩
  case round =>
    obtain ⟨k, hk, rfl, ha⟩ := hrel
    have HA := hid ha; clear ha
    by_cases hlt : k < ss.length
    · have hcell := HC.out k hlt
      have hss := HS.out k hlt
      cases hb : nb ss[k]
      · have CK := check_no ss[k] w hss hb
        have CKH := hid CK; clear CK
        have HB := hid hb; clear hb
        go_wp2_with fail
        refine CKH.out.mono ?_
        rintro e w' ⟨rfl, rfl⟩
        go_wp2
        go_ret
        exact ⟨ret_int (all_bad ss k hlt HB.out).symm, rfl⟩
      · have CK := check_yes ss[k] w hss hb
        have CKH := hid CK; clear CK
        have HB := hid hb; clear hb
        go_wp2_with fail
        refine CKH.out.mono ?_
        rintro e w' ⟨rfl, rfl⟩
        go_wp2
        go_round
        case rel => exact ⟨k + 1, by omega, by go_num, all_step ss k hlt HA.out HB.out⟩
        case measure => simp [intOf]; omega
    · go_wp2
      go_ret
      exact ⟨ret_int (all_end ss k hlt HA.out).symm, rfl⟩

theorem checkAll2 (a b : ByteArray) (x : Nat) (w : World) (ha : a.size ≤ maxLen) (hb : b.size ≤ maxLen) (h0 : w.cell? ⟨x, 0, none⟩ = some (.string a)) (h1 : w.cell? ⟨x, 1, none⟩ = some (.string b)) :
    Calls Try.prog 87 #[.slice (some ⟨x, 0, none⟩) 2 2] w fun e w' => e = .returned (.int .i64 (err (nb a && nb b))) ∧ w = w' := by
  have h := checkAll_any [a, b] x w (by simp) (fun k hk => match k, hk with | 0, _ => ha | 1, _ => hb) (fun k hk => match k, hk with | 0, _ => h0 | 1, _ => h1)
  simpa using h
theorem checkAll3 (a b c : ByteArray) (x : Nat) (w : World) (ha : a.size ≤ maxLen) (hb : b.size ≤ maxLen) (hc : c.size ≤ maxLen) (h0 : w.cell? ⟨x, 0, none⟩ = some (.string a)) (h1 : w.cell? ⟨x, 1, none⟩ = some (.string b)) (h2 : w.cell? ⟨x, 2, none⟩ = some (.string c)) :
    Calls Try.prog 87 #[.slice (some ⟨x, 0, none⟩) 3 3] w fun e w' => e = .returned (.int .i64 (err (nb a && nb b && nb c))) ∧ w = w' := by
  have h := checkAll_any [a, b, c] x w (by simp) (fun k hk => match k, hk with | 0, _ => ha | 1, _ => hb | 2, _ => hc) (fun k hk => match k, hk with | 0, _ => h0 | 1, _ => h1 | 2, _ => h2)
  simpa [Bool.and_assoc] using h

set_option maxHeartbeats 400000 in
theorem object_any (a b : ByteArray) (w : World) (ha : a.size ≤ maxLen) (hb : b.size ≤ maxLen) :
    Calls Try.prog 90 #[.agg #[.string a, .string b]] w fun e w' => e = .returned (.int .i64 (err (nb a && nb b))) ∧ Below w.heap.size w w' := by
  go_enter Try.func90, Try.ntmps90
  go_wp2_with fail
  refine (checkAll2 a b _ _ ha hb (by go_simp) (by go_simp)).mono ?_
  rintro e w' ⟨rfl, rfl⟩
  go_wp2
  go_ret
  exact ⟨rfl, ((Below.refl _ _).alloc (Nat.le_refl _) _).alloc (by simp) _⟩

set_option maxHeartbeats 400000 in
theorem goal_any (a b c : ByteArray) (w : World) (ha : a.size ≤ maxLen) (hb : b.size ≤ maxLen) (hc : c.size ≤ maxLen) :
    Calls Try.prog 57 #[.agg #[.string a, .string b, .string c]] w fun e w' => e = .returned (.int .i64 (err (nb a && nb b && nb c))) ∧ Below w.heap.size w w' := by
  go_enter Try.func57, Try.ntmps57
  go_wp2_with fail
  refine (checkAll3 a b c _ _ ha hb hc (by go_simp) (by go_simp) (by go_simp)).mono ?_
  rintro e w' ⟨rfl, rfl⟩
  go_wp2
  go_ret
  exact ⟨rfl, ((Below.refl _ _).alloc (Nat.le_refl _) _).alloc (by simp) _⟩

/-- is a subject valid? (its object's two fields; Rel) -/
def okSub (a b c : ByteArray) : Bool := nb a && nb b && (c.toList.isEmpty || nb c)

set_option maxHeartbeats 400000 in
theorem subject_any (a b c : ByteArray) (w : World) (ha : a.size ≤ maxLen) (hb : b.size ≤ maxLen) (hc : c.size ≤ maxLen) :
    Calls Try.prog 66 #[.agg #[.string a, .string b, .string c]] w fun e w' => e = .returned (.int .i64 (err (okSub a b c))) ∧ Below w.heap.size w w' := by
  cases hz : c.toList.isEmpty
  · have E : Hid (okSub a b c = (nb a && nb b && nb c)) := by unfold okSub; rw [hz]; rfl
    go_enter Try.func66, Try.ntmps66
    go_wp2_with fail
    refine (checkAll3 a b c _ _ ha hb hc (by go_simp) (by go_simp) (by go_simp)).mono ?_
    rintro e w' ⟨rfl, rfl⟩
    go_wp2
    go_ret
    exact ⟨by rw [E.out]; rfl, ((Below.refl _ _).alloc (Nat.le_refl _) _).alloc (by simp) _⟩
  · have E : Hid (okSub a b c = (nb a && nb b)) := by unfold okSub; rw [hz]; simp [Hid]
    go_enter Try.func66, Try.ntmps66
    go_wp2_with fail
    refine (object_any a b _ ha hb).mono ?_
    rintro e w' ⟨rfl, hw⟩
    go_wp2
    go_ret
    exact ⟨by rw [E.out]; rfl, ((Below.refl _ _).alloc (Nat.le_refl _) _).trans (hw.mono (by simp))⟩

theorem rcheck_yes (s : ByteArray) (w : World) (hs : s.size ≤ maxLen) (hb : nb s = true) :
    Calls Try.prog 36 #[.string s] w fun e w' => e = .returned (.int .i64 0) ∧ w = w' := by
  have h := rcheck_nb s w hs; rw [hb] at h; exact h
theorem rcheck_no (s : ByteArray) (w : World) (hs : s.size ≤ maxLen) (hb : nb s = false) :
    Calls Try.prog 36 #[.string s] w fun e w' => e = .returned (.int .i64 6) ∧ w = w' := by
  have h := rcheck_nb s w hs; rw [hb] at h; exact h

set_option maxHeartbeats 800000 in
theorem robject_any (a b : ByteArray) (w : World) (ha : a.size ≤ maxLen) (hb : b.size ≤ maxLen) :
    Calls Try.prog 67 #[.agg #[.string a, .string b]] w fun e w' => e = .returned (.int .i64 (err (nb a && nb b))) ∧ Below w.heap.size w w' := by
  cases ea : nb a <;> cases eb : nb b
  all_goals
    go_enter Try.func67, Try.ntmps67
    go_wp2_with fail
    go_region_held3 (fun w' => w'.cell? ⟨w.heap.size, 0, none⟩ = some (.string a) ∧ w'.cell? ⟨w.heap.size, 1, none⟩ = some (.string b)) (go_keep)
      (first | (go_at_call 36; refine (rcheck_yes _ _ (by assumption) (by assumption)).mono ?_; rintro e w' ⟨rfl, rfl⟩) | (go_at_call 36; refine (rcheck_no _ _ (by assumption) (by assumption)).mono ?_; rintro e w' ⟨rfl, rfl⟩))
    go_wp2
    go_ret
    exact ⟨rfl, ((Below.refl _ _).alloc (Nat.le_refl _) _).drew⟩

theorem robject_yes (a b : ByteArray) (w : World) (ha : a.size ≤ maxLen) (hb : b.size ≤ maxLen) (h : (nb a && nb b) = true) :
    Calls Try.prog 67 #[.agg #[.string a, .string b]] w fun e w' => e = .returned (.int .i64 0) ∧ Below w.heap.size w w' := by
  have q := robject_any a b w ha hb; rw [h] at q; exact q
theorem robject_no (a b : ByteArray) (w : World) (ha : a.size ≤ maxLen) (hb : b.size ≤ maxLen) (h : (nb a && nb b) = false) :
    Calls Try.prog 67 #[.agg #[.string a, .string b]] w fun e w' => e = .returned (.int .i64 6) ∧ Below w.heap.size w w' := by
  have q := robject_any a b w ha hb; rw [h] at q; exact q


theorem rsub_value (a b c : ByteArray) (h : ¬ c.size = 0) : okSub a b c = (nb a && nb b && nb c) := by
  unfold okSub
  have e : c.toList.isEmpty = false := by
    rw [ByteArray.toList_eq, List.isEmpty_eq_false_iff]; intro h0; apply h
    have := congrArg List.length h0; simpa using this
  rw [e]; rfl
theorem rsub_value0 (a b c : ByteArray) (h : c.size = 0) : okSub a b c = (nb a && nb b) := by
  unfold okSub
  have e : c.toList.isEmpty = true := by
    rw [ByteArray.toList_eq, List.isEmpty_iff]; exact List.eq_nil_of_length_eq_zero (by simpa using h)
  rw [e]; simp

set_option maxHeartbeats 800000 in
theorem rsubject_any (a b c : ByteArray) (w : World) (ha : a.size ≤ maxLen) (hb : b.size ≤ maxLen) (hc : c.size ≤ maxLen) :
    Calls Try.prog 37 #[.agg #[.string a, .string b, .string c]] w fun e w' => e = .returned (.int .i64 (err (okSub a b c))) ∧ Below w.heap.size w w' := by
  by_cases hz : c.size = 0
  · have E := hid (rsub_value0 a b c hz)
    have hz1 : ((c.size : Int) == 0) = true := beq_iff_eq.2 (by omega)
    clear hz
    go_enter Try.func37, Try.ntmps37
    go_wp2_with fail
    refine (robject_any a b _ ha hb).mono ?_
    rintro e w' ⟨rfl, hw⟩
    go_wp2
    go_ret
    exact ⟨by rw [E.out]; rfl, g_trans (g_alloc g_refl _) hw⟩
  · have E := hid (rsub_value a b c hz)
    have hz1 : ((c.size : Int) == 0) = false := beq_eq_false_iff_ne.2 (by omega)
    clear hz
    generalize hx : (nb a && nb b) = x at *
    generalize hy : nb c = y at *
    have HX := hid hx; clear hx
    have HY := hid hy; clear hy
    cases x <;> cases y
    all_goals
      go_enter Try.func37, Try.ntmps37
      go_wp2_with fail
      go_region_held3 (fun w' => w'.cell? ⟨w.heap.size, 0, none⟩ = some (.string a) ∧ w'.cell? ⟨w.heap.size, 1, none⟩ = some (.string b) ∧ w'.cell? ⟨w.heap.size, 2, none⟩ = some (.string c)) (go_keep)
        (first | (go_at_call 36; refine (rcheck_yes _ _ (by assumption) HY.out).mono ?_; rintro e w' ⟨rfl, rfl⟩) | (go_at_call 36; refine (rcheck_no _ _ (by assumption) HY.out).mono ?_; rintro e w' ⟨rfl, rfl⟩) | (go_at_call 67; refine (robject_yes _ _ _ (by assumption) (by assumption) HX.out).mono ?_; rintro e w' ⟨rfl, hw⟩; obtain ⟨hcc, -⟩ := bcell hw) | (go_at_call 67; refine (robject_no _ _ _ (by assumption) (by assumption) HX.out).mono ?_; rintro e w' ⟨rfl, hw⟩; obtain ⟨hcc, -⟩ := bcell hw))
      go_wp2
      go_ret
      exact ⟨by rw [E.out]; rfl, g_trans (g_drew (g_alloc g_refl _)) hw⟩

end Go.Proofs.Ytgfgfggoofjeeaa
