/-
  THE CONTRACTS of the references' Compare functions in the words of 'Grew'; the order of tuples by the reference.
-/
import Derived.Test.YtgfgfggoofjeeaaTGrew
namespace Go.Proofs.Ytgfgfggoofjeeaa
open Go.RowKit Go.Sort

set_option maxHeartbeats 800000 in
theorem order_gw (a b : ByteArray) (w : World) (ha : a.size ≤ maxLen) (_hb : b.size ≤ maxLen) :
    Calls Try.prog 99 #[.string a, .string b] w fun e w' => e = .returned (.int .i64 (cmpS a b)) ∧ Grew w w' := by
  unfold maxLen at ha
  go_enter Try.func99, Try.ntmps99
  go_wp2
  go_loopw [5] (fun i wr => ∃ k : Nat, k ≤ a.size ∧ k ≤ b.size ∧ i = .int .i64 k ∧ Lib.compareBytes (a.data.toList.drop k) (b.data.toList.drop k) = cmpS a b ∧ Grew w wr) (fun i _ => a.size - (intOf i).toNat)
  case atStart => exact ⟨0, Nat.zero_le _, Nat.zero_le _, rfl, rfl, gw_refl⟩
  case round =>
    obtain ⟨k, hka, hkb, rfl, hd, hw⟩ := hrel
    have HD := hid hd; clear hd
    by_cases hla : k < a.size
    · by_cases hlb : k < b.size
      · have b1 : (0 : Int) ≤ (k : Int) := by omega
        have b2 : (k : Int) < (a.size : Int) := by omega
        have b3 : (k : Int) < (b.size : Int) := by omega
        by_cases h1 : (a[k].toNat : Int) < (b[k].toNat : Int)
        · go_wp2
          go_quiet (fail)
          go_wp2
          go_ret
          exact ⟨ret_int (HD.out ▸ (cmp_lt a b k hla hlb h1).symm), gw_drewN hw _⟩
        · by_cases h2 : (b[k].toNat : Int) < (a[k].toNat : Int)
          · go_wp2
            go_quiet (fail)
            go_wp2
            go_quiet (fail)
            go_wp2
            go_ret
            exact ⟨ret_int (HD.out ▸ (cmp_gt a b k hla hlb h2).symm), gw_drewN (gw_drewN hw _) _⟩
          · go_wp2
            go_quiet (fail)
            go_wp2
            go_quiet (fail)
            go_wp2
            go_roundw
            case rel => exact ⟨k + 1, by omega, by omega, by go_num, (cmp_eq a b k hla hlb (by omega) (by omega)).trans HD.out, gw_drewN hw _⟩
            case measure => simp [intOf]; omega
      · have hlb' : ¬ a.size < b.size := by omega
        have hlb2 : b.size < a.size := by omega
        go_wp2
        go_ret
        exact ⟨ret_int (HD.out ▸ (cmp_end_b a b k hla hlb).symm), hw⟩
    · by_cases hlb : k < b.size
      · go_wp2
        go_ret
        exact ⟨ret_int (HD.out ▸ (cmp_end_a a b k hla hlb).symm), hw⟩
      · go_wp2
        go_ret
        exact ⟨ret_int (HD.out ▸ (cmp_end a b k hla hlb).symm), hw⟩
set_option maxHeartbeats 800000 in
theorem rcompare_gw (a b c d : ByteArray) (w : World) (ha : a.size ≤ maxLen) (hb : b.size ≤ maxLen) (hc : c.size ≤ maxLen) (hd : d.size ≤ maxLen) :
    Calls Try.prog 98 #[.agg #[.string a, .string b], .agg #[.string c, .string d]] w fun e w' => e = .returned (.int .i64 (cmpO a b c d)) ∧ Grew w w' := by
  by_cases h : a = c
  · subst h
    have E := hid (cmpO_eq a b d)
    go_enter Try.func98, Try.ntmps98
    go_wp2_with fail
    refine (order_gw _ _ _ hb hd).mono ?_
    rintro e w' ⟨rfl, hw⟩
    go_wp2
    go_ret
    exact ⟨by rw [E.out]; rfl, gw_trans (gw_alloc (gw_alloc gw_refl _) _) hw⟩
  · have E := hid (cmpO_ne (b := b) (d := d) h)
    have hq := toList_ne h
    clear h
    go_enter Try.func98, Try.ntmps98
    go_wp2_with fail
    refine (order_gw _ _ _ ha hc).mono ?_
    rintro e w' ⟨rfl, hw⟩
    go_wp2
    go_ret
    exact ⟨by rw [E.out]; rfl, gw_trans (gw_alloc (gw_alloc gw_refl _) _) hw⟩
set_option maxHeartbeats 800000 in
theorem rcompareGoal_gw (a b c d e f : ByteArray) (w : World) (ha : a.size ≤ maxLen) (hb : b.size ≤ maxLen) (hc : c.size ≤ maxLen) (hd : d.size ≤ maxLen) (he : e.size ≤ maxLen) (hf : f.size ≤ maxLen) :
    Calls Try.prog 75 #[.agg #[.string a, .string b, .string c], .agg #[.string d, .string e, .string f]] w fun r w' => r = .returned (.int .i64 (cmpG a b c d e f)) ∧ Grew w w' := by
  go_enter Try.func75, Try.ntmps75
  go_wp2_with fail
  · have E := hid (cmpG_obj a b c d e f (by assumption) (by assumption))
    refine (order_gw _ _ _ hc hf).mono ?_
    rintro r w' ⟨rfl, hw⟩
    go_wp2
    go_ret
    exact ⟨by rw [E.out]; rfl, gw_trans (gw_alloc (gw_alloc gw_refl _) _) hw⟩
  · have E := hid (cmpG_one a b c d e f (by assumption))
    refine (rcompare_gw _ _ _ _ _ ha hb hd he).mono ?_
    rintro r w' ⟨rfl, hw⟩
    go_wp2
    go_ret
    exact ⟨by rw [E.out]; rfl, gw_trans (gw_alloc (gw_alloc gw_refl _) _) hw⟩
  · have E := hid (cmpG_two a b c d e f (by assumption))
    refine (rcompare_gw _ _ _ _ _ ha hb hd he).mono ?_
    rintro r w' ⟨rfl, hw⟩
    go_wp2
    go_ret
    exact ⟨by rw [E.out]; rfl, gw_trans (gw_alloc (gw_alloc gw_refl _) _) hw⟩
set_option maxHeartbeats 800000 in
theorem rcompareSubject_gw (a b c d e f : ByteArray) (w : World) (ha : a.size ≤ maxLen) (hb : b.size ≤ maxLen) (hc : c.size ≤ maxLen) (hd : d.size ≤ maxLen) (he : e.size ≤ maxLen) (hf : f.size ≤ maxLen) :
    Calls Try.prog 76 #[.agg #[.string a, .string b, .string c], .agg #[.string d, .string e, .string f]] w fun r w' => r = .returned (.int .i64 (cmpG a b c d e f)) ∧ Grew w w' := by
  go_enter Try.func76, Try.ntmps76
  go_wp2_with fail
  · have E := hid (cmpG_obj a b c d e f (by assumption) (by assumption))
    refine (order_gw _ _ _ hc hf).mono ?_
    rintro r w' ⟨rfl, hw⟩
    go_wp2
    go_ret
    exact ⟨by rw [E.out]; rfl, gw_trans (gw_alloc (gw_alloc gw_refl _) _) hw⟩
  · have E := hid (cmpG_one a b c d e f (by assumption))
    refine (rcompare_gw _ _ _ _ _ ha hb hd he).mono ?_
    rintro r w' ⟨rfl, hw⟩
    go_wp2
    go_ret
    exact ⟨by rw [E.out]; rfl, gw_trans (gw_alloc (gw_alloc gw_refl _) _) hw⟩
  · have E := hid (cmpG_two a b c d e f (by assumption))
    refine (rcompare_gw _ _ _ _ _ ha hb hd he).mono ?_
    rintro r w' ⟨rfl, hw⟩
    go_wp2
    go_ret
    exact ⟨by rw [E.out]; rfl, gw_trans (gw_alloc (gw_alloc gw_refl _) _) hw⟩

/-- the strings of a tuple can be in memory -/
def Fits (x : Tup) : Prop := x.a.size ≤ maxLen ∧ x.b.size ≤ maxLen ∧ x.c.size ≤ maxLen ∧ x.d.size ≤ maxLen ∧ x.e.size ≤ maxLen ∧ x.f.size ≤ maxLen
theorem cmpT_goal (a b c d e f d' e' f' : ByteArray) : cmpT ⟨a, b, c, d, e, f⟩ ⟨a, b, c, d', e', f'⟩ = cmpG d e f d' e' f' := cmpT_z (cmpG_self a b c)
theorem cmpT_ne {a b c d e f a' b' c' d' e' f' : ByteArray} (h : ¬ (a = a' ∧ b = b' ∧ c = c')) : cmpT ⟨a, b, c, d, e, f⟩ ⟨a', b', c', d', e', f'⟩ = cmpG a b c a' b' c' :=
  cmpT_n (x := ⟨a, b, c, d, e, f⟩) (y := ⟨a', b', c', d', e', f'⟩) fun e => h (cmpG_zero e)

set_option maxHeartbeats 1000000 in
theorem rtcmp (x y : Tup) (w : World) (hx : Fits x) (hy : Fits y) :
    Calls Try.prog 43 #[val x, val y] w fun r w' => r = .returned (.int .i64 (cmpT x y)) ∧ Grew w w' := by
  obtain ⟨a, b, c, d, e, f⟩ := x
  obtain ⟨a', b', c', d', e', f'⟩ := y
  obtain ⟨z1, z2, z3, z4, z5, z6⟩ := hx
  obtain ⟨y1, y2, y3, y4, y5, y6⟩ := hy
  show Calls _ _ #[.agg #[.string a, .string b, .string c, .string d, .string e, .string f], .agg #[.string a', .string b', .string c', .string d', .string e', .string f']] _ _
  simp only at z1 z2 z3 z4 z5 z6 y1 y2 y3 y4 y5 y6
  by_cases hG : a = a' ∧ b = b' ∧ c = c'
  · obtain ⟨rfl, rfl, rfl⟩ := hG
    have E := hid (cmpT_goal a b c d e f d' e' f')
    go_enter Try.func43, Try.ntmps43
    go_wp2_with fail
    refine (rcompareSubject_gw _ _ _ _ _ _ _ z4 z5 z6 y4 y5 y6).mono ?_
    rintro r w' ⟨rfl, hw⟩
    go_wp2
    go_ret
    exact ⟨by rw [E.out]; rfl, gw_trans (gw_alloc (gw_alloc gw_refl _) _) hw⟩
  · have E := hid (cmpT_ne (d := d) (e := e) (f := f) (d' := d') (e' := e') (f' := f') hG)
    have H : Hid (∀ _ : a.toList = a'.toList, ∀ _ : b.toList = b'.toList, ∀ _ : c.toList = c'.toList, False) := fun h1 h2 h3 => hG ⟨toList_inj h1, toList_inj h2, toList_inj h3⟩
    clear hG
    go_enter Try.func43, Try.ntmps43
    go_wp2_with fail
    all_goals first
      | (exfalso; exact H.out (by assumption) (by assumption) (by assumption))
      | (refine (rcompareGoal_gw _ _ _ _ _ _ _ z1 z2 z3 y1 y2 y3).mono ?_
         rintro r w' ⟨rfl, hw⟩
         go_wp2
         go_ret
         exact ⟨by rw [E.out]; rfl, gw_trans (gw_alloc (gw_alloc gw_refl _) _) hw⟩)

end Go.Proofs.Ytgfgfggoofjeeaa
