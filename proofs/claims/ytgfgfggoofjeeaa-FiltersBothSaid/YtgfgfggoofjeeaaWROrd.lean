/-
  THE CONTRACTS of the reference's Compare functions: the same orders; what lay below stands.
-/
import Derived.Test.YtgfgfggoofjeeaaWOrd
namespace Go.Proofs.Ytgfgfggoofjeeaa
open Go.RowKit

theorem cmpL_zero : ∀ l m : List UInt8, Lib.compareBytes l m = 0 → l = m
  | [], [], _ => rfl
  | [], _ :: _, h => by simp [Lib.compareBytes] at h
  | _ :: _, [], h => by simp [Lib.compareBytes] at h
  | x :: l, y :: m, h => by
    unfold Lib.compareBytes at h
    by_cases h1 : x < y
    · rw [if_pos h1] at h; cases h
    · rw [if_neg h1] at h
      by_cases h2 : y < x
      · rw [if_pos h2] at h; cases h
      · rw [if_neg h2] at h
        have e : x = y := by
          rw [UInt8.lt_iff_toNat_lt] at h1 h2
          exact UInt8.toNat_inj.1 (by omega)
        rw [e, cmpL_zero l m h]
theorem cmpL_self : ∀ l : List UInt8, Lib.compareBytes l l = 0
  | [] => rfl
  | x :: l => by
    unfold Lib.compareBytes
    rw [if_neg (by rw [UInt8.lt_iff_toNat_lt]; omega), if_neg (by rw [UInt8.lt_iff_toNat_lt]; omega), cmpL_self l]
theorem cmpS_zero {a b : ByteArray} (h : cmpS a b = 0) : a = b := WideShapes.bytes_inj (cmpL_zero _ _ h)
theorem cmpS_self (a : ByteArray) : cmpS a a = 0 := cmpL_self _
theorem cmpS_ne {a b : ByteArray} (h : ¬ a = b) : ¬ cmpS a b = 0 := fun e => h (cmpS_zero e)
theorem toList_ne {a b : ByteArray} (h : ¬ a = b) : (a.toList == b.toList) = false := by
  refine beq_eq_false_iff_ne.2 (fun e => h ?_)
  rw [ByteArray.toList_eq, ByteArray.toList_eq] at e
  exact WideShapes.bytes_inj e
theorem cmpO_eq (a b d : ByteArray) : cmpO a b a d = cmpS b d := by
  show (if cmpS a a = 0 then (if cmpS b d = 0 then 0 else cmpS b d) else cmpS a a) = _
  rw [if_pos (cmpS_self a)]; split <;> simp_all
theorem cmpO_ne {a b c d : ByteArray} (h : ¬ a = c) : cmpO a b c d = cmpS a c := by
  show (if cmpS a c = 0 then _ else cmpS a c) = _
  rw [if_neg (cmpS_ne h)]

set_option maxHeartbeats 800000 in
theorem rcompare_any (a b c d : ByteArray) (w : World) (ha : a.size ≤ maxLen) (hb : b.size ≤ maxLen) (hc : c.size ≤ maxLen) (hd : d.size ≤ maxLen) :
    Calls Try.prog 98 #[.agg #[.string a, .string b], .agg #[.string c, .string d]] w fun e w' => e = .returned (.int .i64 (cmpO a b c d)) ∧ Below w.heap.size w w' := by
  by_cases h : a = c
  · subst h
    have E := hid (cmpO_eq a b d)
    go_enter Try.func98, Try.ntmps98
    go_wp2_with fail
    refine (order_any _ _ _ hb hd).mono ?_
    rintro e w' ⟨rfl, hw⟩
    go_wp2
    go_ret
    exact ⟨by rw [E.out]; rfl, g_trans (g_alloc (g_alloc g_refl _) _) hw⟩
  · have E := hid (cmpO_ne (b := b) (d := d) h)
    have hq := toList_ne h
    clear h
    go_enter Try.func98, Try.ntmps98
    go_wp2_with fail
    refine (order_any _ _ _ ha hc).mono ?_
    rintro e w' ⟨rfl, hw⟩
    go_wp2
    go_ret
    exact ⟨by rw [E.out]; rfl, g_trans (g_alloc (g_alloc g_refl _) _) hw⟩

theorem toList_inj {a b : ByteArray} (h : a.toList = b.toList) : a = b := by
  rw [ByteArray.toList_eq, ByteArray.toList_eq] at h
  exact WideShapes.bytes_inj h
theorem cmpG_full (a b c d e f : ByteArray) : cmpG a b c d e f = if cmpS a d = 0 then (if cmpS b e = 0 then (if cmpS c f = 0 then 0 else cmpS c f) else cmpS b e) else cmpS a d := rfl
theorem cmpO_full (a b c d : ByteArray) : cmpO a b c d = if cmpS a c = 0 then (if cmpS b d = 0 then 0 else cmpS b d) else cmpS a c := rfl
theorem cmpG_obj (a b c d e f : ByteArray) (h1 : a.toList = d.toList) (h2 : b.toList = e.toList) : cmpG a b c d e f = cmpS c f := by
  obtain rfl := toList_inj h1
  obtain rfl := toList_inj h2
  rw [cmpG_full, if_pos (cmpS_self a), if_pos (cmpS_self b)]; split <;> simp_all
theorem cmpG_one (a b c d e f : ByteArray) (h2 : ¬ b.toList = e.toList) : cmpG a b c d e f = cmpO a b d e := by
  have h : ¬ cmpS b e = 0 := cmpS_ne (fun x => h2 (by rw [x]))
  rw [cmpG_full, cmpO_full, if_neg h, if_neg h]
theorem cmpG_two (a b c d e f : ByteArray) (h1 : ¬ a.toList = d.toList) : cmpG a b c d e f = cmpO a b d e := by
  have h : ¬ cmpS a d = 0 := cmpS_ne (fun x => h1 (by rw [x]))
  rw [cmpG_full, cmpO_full, if_neg h, if_neg h]

set_option maxHeartbeats 800000 in
theorem rcompareGoal_any (a b c d e f : ByteArray) (w : World) (ha : a.size ≤ maxLen) (hb : b.size ≤ maxLen) (hc : c.size ≤ maxLen) (hd : d.size ≤ maxLen) (he : e.size ≤ maxLen) (hf : f.size ≤ maxLen) :
    Calls Try.prog 75 #[.agg #[.string a, .string b, .string c], .agg #[.string d, .string e, .string f]] w fun r w' => r = .returned (.int .i64 (cmpG a b c d e f)) ∧ Below w.heap.size w w' := by
  go_enter Try.func75, Try.ntmps75
  go_wp2_with fail
  · have E := hid (cmpG_obj a b c d e f (by assumption) (by assumption))
    refine (order_any _ _ _ hc hf).mono ?_
    rintro r w' ⟨rfl, hw⟩
    go_wp2
    go_ret
    exact ⟨by rw [E.out]; rfl, g_trans (g_alloc (g_alloc g_refl _) _) hw⟩
  · have E := hid (cmpG_one a b c d e f (by assumption))
    refine (rcompare_any _ _ _ _ _ ha hb hd he).mono ?_
    rintro r w' ⟨rfl, hw⟩
    go_wp2
    go_ret
    exact ⟨by rw [E.out]; rfl, g_trans (g_alloc (g_alloc g_refl _) _) hw⟩
  · have E := hid (cmpG_two a b c d e f (by assumption))
    refine (rcompare_any _ _ _ _ _ ha hb hd he).mono ?_
    rintro r w' ⟨rfl, hw⟩
    go_wp2
    go_ret
    exact ⟨by rw [E.out]; rfl, g_trans (g_alloc (g_alloc g_refl _) _) hw⟩

set_option maxHeartbeats 800000 in
theorem rcompareSubject_any (a b c d e f : ByteArray) (w : World) (ha : a.size ≤ maxLen) (hb : b.size ≤ maxLen) (hc : c.size ≤ maxLen) (hd : d.size ≤ maxLen) (he : e.size ≤ maxLen) (hf : f.size ≤ maxLen) :
    Calls Try.prog 76 #[.agg #[.string a, .string b, .string c], .agg #[.string d, .string e, .string f]] w fun r w' => r = .returned (.int .i64 (cmpG a b c d e f)) ∧ Below w.heap.size w w' := by
  go_enter Try.func76, Try.ntmps76
  go_wp2_with fail
  · have E := hid (cmpG_obj a b c d e f (by assumption) (by assumption))
    refine (order_any _ _ _ hc hf).mono ?_
    rintro r w' ⟨rfl, hw⟩
    go_wp2
    go_ret
    exact ⟨by rw [E.out]; rfl, g_trans (g_alloc (g_alloc g_refl _) _) hw⟩
  · have E := hid (cmpG_one a b c d e f (by assumption))
    refine (rcompare_any _ _ _ _ _ ha hb hd he).mono ?_
    rintro r w' ⟨rfl, hw⟩
    go_wp2
    go_ret
    exact ⟨by rw [E.out]; rfl, g_trans (g_alloc (g_alloc g_refl _) _) hw⟩
  · have E := hid (cmpG_two a b c d e f (by assumption))
    refine (rcompare_any _ _ _ _ _ ha hb hd he).mono ?_
    rintro r w' ⟨rfl, hw⟩
    go_wp2
    go_ret
    exact ⟨by rw [E.out]; rfl, g_trans (g_alloc (g_alloc g_refl _) _) hw⟩

end Go.Proofs.Ytgfgfggoofjeeaa
