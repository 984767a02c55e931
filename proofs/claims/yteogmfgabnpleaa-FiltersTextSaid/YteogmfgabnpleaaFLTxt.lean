/-
  PLAIN FACTS: a valid filter's text is read as it; what was read has the text.
  FiltersText returns true: the walk.
-/
import Derived.Test.YteogmfgabnpleaaFFac
import Derived.Test.YteogmfgabnpleaaMBack
import Derived.Test.YteogmfgabnpleaaFFac
namespace Go.Proofs.Yteogmfgabnpleaa
open Go.RowKit Go.Sort

/-- the places of the signs in a goal's text -/
theorem gt_places {a b c : ByteArray} (ha : (58 : UInt8) ∉ a.data.toList ∧ (35 : UInt8) ∉ a.data.toList) (hb : (58 : UInt8) ∉ b.data.toList ∧ (35 : UInt8) ∉ b.data.toList) (hc : (58 : UInt8) ∉ c.data.toList ∧ (35 : UInt8) ∉ c.data.toList) :
    cn (gtxt a b c) 58 = 1 ∧ cn (gtxt a b c) 35 = 1 ∧ ix (gtxt a b c) 58 = a.data.toList.length ∧ ix (gtxt a b c) 35 = a.data.toList.length + 1 + b.data.toList.length := by
  have h58 : cn (gtxt a b c) 58 = 1 := by
    unfold cn Lib.countByte
    rw [gtxt_list, List.count_append, List.count_eq_zero.2 ha.1, List.count_cons_self, List.count_append, List.count_eq_zero.2 hb.1, List.count_cons_of_ne (by decide), List.count_eq_zero.2 hc.1]
  have h35 : cn (gtxt a b c) 35 = 1 := by
    unfold cn Lib.countByte
    rw [gtxt_list, List.count_append, List.count_eq_zero.2 ha.2, List.count_cons_of_ne (by decide), List.count_append, List.count_eq_zero.2 hb.2, List.count_cons_self, List.count_eq_zero.2 hc.2]
  refine ⟨h58, h35, ?_, ?_⟩
  · unfold ix; rw [gtxt_list, List.idxOf_append, if_neg ha.1, List.idxOf_cons_self]; omega
  · unfold ix
    rw [gtxt_list, List.idxOf_append, if_neg ha.2, List.idxOf_cons, beq_eq_false_iff_ne.2 (by decide : ¬ (58 : UInt8) = 35), cond_false, List.idxOf_append, if_neg hb.2, List.idxOf_cons_self]; omega
theorem gt_parts {a b c : ByteArray} (ha : (58 : UInt8) ∉ a.data.toList ∧ (35 : UInt8) ∉ a.data.toList) (hb : (58 : UInt8) ∉ b.data.toList ∧ (35 : UInt8) ∉ b.data.toList) (hc : (58 : UInt8) ∉ c.data.toList ∧ (35 : UInt8) ∉ c.data.toList) :
    (gtxt a b c).extract 0 (ix (gtxt a b c) 58) = a ∧ (gtxt a b c).extract (ix (gtxt a b c) 58 + 1) (ix (gtxt a b c) 35) = b ∧ (gtxt a b c).extract (ix (gtxt a b c) 35 + 1) (gtxt a b c).size = c := by
  obtain ⟨-, -, e1, e2⟩ := gt_places ha hb hc
  have hl := gtxt_list a b c
  refine ⟨?_, ?_, ?_⟩ <;> apply WideShapes.bytes_inj
  · rw [ext_take, e1, hl, List.take_left']; rfl
  · rw [ext_mid, e1, e2, hl]
    rw [show a.data.toList ++ 58 :: (b.data.toList ++ 35 :: c.data.toList) = (a.data.toList ++ [58]) ++ (b.data.toList ++ 35 :: c.data.toList) by simp, List.drop_left' (by simp), List.take_left' (by omega)]
  · rw [ext_drop, e2, hl]
    rw [show a.data.toList ++ 58 :: (b.data.toList ++ 35 :: c.data.toList) = (a.data.toList ++ 58 :: (b.data.toList ++ [35])) ++ c.data.toList by simp, List.drop_left' (by simp; omega)]
theorem st_star {x : ByteArray} (h : okS x = true) : st (star x) = x := by
  unfold okS at h
  by_cases e : x = ⟨#[42]⟩
  · subst e; rw [star_y]; exact orS_e emp
  · rw [star_n e]
    rw [decide_eq_false e, Bool.false_or] at h
    cases hz : x.toList.isEmpty
    · exact orS_n hz
    · rw [nb_empty hz] at h; cases h
theorem star_st {x : ByteArray} (h : okN x = true) : star (st x) = x ∧ okS (st x) = true := by
  unfold okN at h
  cases hz : x.toList.isEmpty
  · rw [hz, Bool.false_or] at h
    have e : st x = x := orS_n hz
    rw [e]
    refine ⟨star_n fun k => ?_, okS_n h⟩
    subst k; revert h; decide +kernel
  · have e : st x = ⟨#[42]⟩ := orS_e hz
    rw [e, star_y]; exact ⟨(empty_of hz).symm, okS_y⟩
theorem okS_none {x : ByteArray} {c : UInt8} (h : okS x = true) (hc : nameByte c = false) (h42 : ¬ c = 42) : c ∉ x.data.toList := by
  unfold okS at h
  by_cases e : x = ⟨#[42]⟩
  · subst e; simp; exact h42
  · rw [decide_eq_false e, Bool.false_or] at h; exact nb_none h hc
theorem okS_small {x : ByteArray} (h : okS x = true) : (star x).size ≤ 40 := by
  unfold okS at h
  by_cases e : x = ⟨#[42]⟩
  · subst e; rw [star_y]; exact Nat.zero_le _
  · rw [star_n e]; rw [decide_eq_false e, Bool.false_or] at h; have := nb_small h; omega
/-- a goal's text of valid fields is read -/
theorem gpar_txt {a b c : ByteArray} (ha : okN a = true) (hb : okN b = true) (hc : okN c = true) : gpar (gtxt (st a) (st b) (st c)) = (a, b, c, 0) := by
  obtain ⟨a1, a2⟩ := star_st ha
  obtain ⟨b1, b2⟩ := star_st hb
  obtain ⟨c1, c2⟩ := star_st hc
  have A := And.intro (okS_none a2 nb58 (by decide)) (okS_none a2 nb35 (by decide))
  have B := And.intro (okS_none b2 nb58 (by decide)) (okS_none b2 nb35 (by decide))
  have C := And.intro (okS_none c2 nb58 (by decide)) (okS_none c2 nb35 (by decide))
  obtain ⟨e1, e2, e3, e4⟩ := gt_places A B C
  obtain ⟨p1, p2, p3⟩ := gt_parts A B C
  rw [gpar0 (by omega) p1 p2 p3 (by rw [a2, b2, c2]; rfl), a1, b1, c1]
theorem fchk_parts {f : Fil} (h : fchk f = 0) : okN f.a = true ∧ okN f.b = true ∧ okN f.c = true ∧ (f.x = false → f.d = ⟨#[]⟩ ∧ f.e = ⟨#[]⟩ ∧ f.f = ⟨#[]⟩) ∧ (f.x = true → okSub f.d f.e f.f = true) := by
  unfold fchk at h
  split at h
  · exact absurd h (by decide)
  · rename_i h1
    split at h
    · rename_i h2
      simp only [Bool.and_eq_true, Bool.or_eq_true, Bool.not_eq_true'] at h2
      obtain ⟨⟨⟨k1, k2⟩, k3⟩, k4⟩ := h2
      refine ⟨k1, k2, k3, fun e => ?_, fun e => k4.resolve_left (by rw [e]; decide)⟩
      rw [e] at h1
      have h3 : noS f = true := by simpa using h1
      unfold noS at h3
      simp only [Bool.and_eq_true] at h3
      exact ⟨empty_of h3.1.1, empty_of h3.1.2, empty_of h3.2⟩
    · exact absurd h (by decide)
theorem cn_zero {s : ByteArray} {c : UInt8} (h : c ∉ s.data.toList) : cn s c = 0 := List.count_eq_zero.2 h
/-- the text of a valid filter is read as it again -/
theorem back_fil {f : Fil} (h : fchk f = 0) : fpar (ftxt f) = (f, 0) := by
  obtain ⟨ha, hb, hc, hd, he⟩ := fchk_parts h
  obtain ⟨a, b, c, d, e, g, x⟩ := f
  simp only at ha hb hc hd he
  have hg := gpar_txt ha hb hc
  have a2 := (star_st ha).2
  have b2 := (star_st hb).2
  have c2 := (star_st hc).2
  have n1 : (64 : UInt8) ∉ (gtxt (st a) (st b) (st c)).data.toList := by
    rw [gtxt_list]
    simp [okS_none a2 nb64 (by decide), okS_none b2 nb64 (by decide), okS_none c2 nb64 (by decide)]
  cases x
  · obtain ⟨rfl, rfl, rfl⟩ := hd rfl
    have ht : ftxt ⟨a, b, c, ⟨#[]⟩, ⟨#[]⟩, ⟨#[]⟩, false⟩ = gtxt (st a) (st b) (st c) := rfl
    rw [ht]
    have h0 := cn_zero n1
    exact fpar_plain h0 (by unfold gof; rw [if_pos h0]; exact hg)
  · have hk := he rfl
    have n2 : (64 : UInt8) ∉ (stxt d e g).data.toList := by
      obtain ⟨d1, d2, d3⟩ := ok_parts hk
      cases hz : g.toList.isEmpty
      · rw [stxt_full hz]; exact (txt64 d1 d2 d3).1
      · rw [stxt_empty hz]; exact (txt64 d1 d2 d3).2
    have ht : (ftxt ⟨a, b, c, d, e, g, true⟩).data.toList = (gtxt (st a) (st b) (st c)).data.toList ++ 64 :: (stxt d e g).data.toList := by
      show (gtxt (st a) (st b) (st c) ++ (⟨#[64]⟩ ++ stxt d e g)).data.toList = _
      simp [ByteArray.data_append]
    generalize ftxt ⟨a, b, c, d, e, g, true⟩ = s at *
    have h1 : cn s 64 = 1 := by
      unfold cn Lib.countByte; rw [ht, List.count_append, List.count_eq_zero.2 n1, List.count_cons_self, List.count_eq_zero.2 n2]
    have h2 : ix s 64 = (gtxt (st a) (st b) (st c)).data.toList.length := by
      unfold ix; rw [ht, List.idxOf_append, if_neg n1, List.idxOf_cons_self]; omega
    have h3 : s.extract 0 (ix s 64) = gtxt (st a) (st b) (st c) := by
      apply WideShapes.bytes_inj
      rw [ext_take, h2, ht, List.take_left' rfl]
    have h4 : s.extract (ix s 64 + 1) s.size = stxt d e g := by
      apply WideShapes.bytes_inj
      rw [ext_drop, h2, ht, show (gtxt (st a) (st b) (st c)).data.toList ++ 64 :: (stxt d e g).data.toList = ((gtxt (st a) (st b) (st c)).data.toList ++ [64]) ++ (stxt d e g).data.toList by simp, List.drop_left' (by simp)]
    have hu : parseF (s.extract (ix s 64 + 1) s.size) 0 1 = (d, e, g, 0) := by rw [h4]; exact parse_stxt hk
    exact fpar_sub h1 (by unfold gof; rw [if_neg (by omega), h3]; exact hg) hu
/-- what was read of a goal has its text -/
theorem gpar_good {g a b c : ByteArray} (h : gpar g = (a, b, c, 0)) : gtxt (st a) (st b) (st c) = g ∧ a.size ≤ 40 ∧ b.size ≤ 40 ∧ c.size ≤ 40 := by
  unfold gpar at h
  split at h
  · exact absurd (congrArg (fun t => t.2.2.2) h) (by simp)
  · rename_i h1
    split at h
    · rename_i h2
      have c1 : cn g 58 = 1 := by omega
      have c2 : cn g 35 = 1 := by omega
      have c3 : ¬ ix g 35 < ix g 58 := by omega
      obtain ⟨s1, s2, s3⟩ := second g (by omega) c3
      have sp := split_ix g 58 (by omega)
      have h4 : ¬ ix g 35 = ix g 58 := fun e => by
        have a1 := at_ix g 58 (by omega); have a2 := at_ix g 35 (by omega)
        rw [e, a1] at a2; exact absurd a2 (by decide)
      have h5 : ix (g.extract (ix g 58 + 1) g.size) 35 = ix g 35 - (ix g 58 + 1) := by omega
      have sq := split_ix (g.extract (ix g 58 + 1) g.size) 35 (by omega)
      rw [h5, ext_ext g, ext_ext2, show ix g 58 + 1 + (ix g 35 - (ix g 58 + 1) + 1) = ix g 35 + 1 by omega] at sq
      have hg : gtxt (g.extract 0 (ix g 58)) (g.extract (ix g 58 + 1) (ix g 35)) (g.extract (ix g 35 + 1) g.size) = g := by
        conv => rhs; rw [sp, sq]
        unfold gtxt; simp only [ByteArray.append_assoc]
      simp only [Bool.and_eq_true] at h2
      obtain ⟨⟨k1, k2⟩, k3⟩ := h2
      simp only [Prod.mk.injEq, and_true] at h
      obtain ⟨rfl, rfl, rfl⟩ := h
      rw [st_star k1, st_star k2, st_star k3]
      exact ⟨hg, okS_small k1, okS_small k2, okS_small k3⟩
    · exact absurd (congrArg (fun t => t.2.2.2) h) (by simp)
theorem sub_good {s a b c : ByteArray} (h : parseF s 0 1 = (a, b, c, 0)) : stxt a b c = s ∧ a.size ≤ 40 ∧ b.size ≤ 40 ∧ c.size ≤ 40 := by
  have q := parse_eq s 0 (.inl rfl)
  rw [h, if_neg (by omega)] at q
  split at q
  · rename_i h0
    obtain ⟨b1, b2, -⟩ := rpar_text s h0
    simp only [Prod.mk.injEq, and_true] at q
    obtain ⟨rfl, rfl, rfl⟩ := q
    obtain ⟨d1, d2, d3⟩ := ok_parts b1
    refine ⟨b2, by have := nb_small d1; omega, by have := nb_small d2; omega, ?_⟩
    rcases d3 with d3 | d3
    · rw [eq_empty d3]; exact Nat.zero_le _
    · have := nb_small d3; omega
  · rename_i h0
    exact absurd (congrArg (fun t => t.2.2.2) q) (by simp only; exact fun e => h0 e.symm)
/-- what was read has the text -/
theorem fpar_good {s : ByteArray} {f : Fil} (h : fpar s = (f, 0)) : ftxt f = s ∧ SmallF f := by
  unfold fpar at h
  split at h
  · exact absurd (congrArg (·.2) h) (by simp)
  · rename_i h1
    split at h
    · rename_i h2
      exact absurd (congrArg (·.2) h) (by simpa using h2)
    · rename_i h2
      have h2 : (gpar (gof s)).2.2.2 = 0 := by simpa using h2
      obtain ⟨⟨a, b, c, n⟩, hg⟩ : ∃ t, gpar (gof s) = t := ⟨_, rfl⟩
      rw [hg] at h h2
      simp only at h2
      subst h2
      obtain ⟨g1, g2, g3, g4⟩ := gpar_good hg
      split at h
      · rename_i h3
        have hgo : gof s = s := by unfold gof; rw [if_pos h3]
        simp only [Prod.mk.injEq, and_true] at h
        subst h
        exact ⟨by rw [hgo] at g1; exact g1, g2, g3, g4, Nat.zero_le _, Nat.zero_le _, Nat.zero_le _⟩
      · rename_i h3
        split at h
        · rename_i h4
          exact absurd (congrArg (·.2) h) (by simpa using h4)
        · rename_i h4
          have h4 : (parseF (s.extract (ix s 64 + 1) s.size) 0 1).2.2.2 = 0 := by simpa using h4
          obtain ⟨⟨d, e, k, m⟩, hu⟩ : ∃ t, parseF (s.extract (ix s 64 + 1) s.size) 0 1 = t := ⟨_, rfl⟩
          rw [hu] at h h4
          simp only at h4
          subst h4
          obtain ⟨u1, u2, u3, u4⟩ := sub_good hu
          have hgo : gof s = s.extract 0 (ix s 64) := by unfold gof; rw [if_neg h3]
          simp only [Prod.mk.injEq, and_true] at h
          subst h
          refine ⟨?_, g2, g3, g4, u2, u3, u4⟩
          show gtxt (st a) (st b) (st c) ++ (⟨#[64]⟩ ++ stxt d e k) = s
          rw [g1, u1, hgo]
          have sp := split_ix s 64 (by omega)
          conv => rhs; rw [sp]
          rw [ByteArray.append_assoc]
end Go.Proofs.Yteogmfgabnpleaa
namespace Go.Proofs.Yteogmfgabnpleaa
open Go.RowKit Go.Sort

theorem ftext_v (a b c d e f : ByteArray) (x : Bool) (t : ByteArray) (w : World) (h : SmallF ⟨a, b, c, d, e, f, x⟩) (ht : ftxt ⟨a, b, c, d, e, f, x⟩ = t) :
    Calls Try.prog 31 #[.agg #[.string a, .string b, .string c, .string d, .string e, .string f, .bool x]] w fun r w' => r = .returned (.string t) ∧ Below w.heap.size w w' := by
  have q := ftext ⟨a, b, c, d, e, f, x⟩ w h; rw [ht] at q; exact q
theorem rftext_v (a b c d e f : ByteArray) (x : Bool) (t : ByteArray) (w : World) (h : SmallF ⟨a, b, c, d, e, f, x⟩) (ht : ftxt ⟨a, b, c, d, e, f, x⟩ = t) :
    Calls Try.prog 33 #[.agg #[.string a, .string b, .string c, .string d, .string e, .string f, .bool x]] w fun r w' => r = .returned (.string t) ∧ Below w.heap.size w w' := by
  have q := rftext ⟨a, b, c, d, e, f, x⟩ w h; rw [ht] at q; exact q
theorem ftxt_size {f : Fil} (h : SmallF f) : (ftxt f).size ≤ 300 := by
  obtain ⟨h1, h2, h3, h4, h5, h6⟩ := h
  have g := gtxt_size (st_size h1) (st_size h2) (st_size h3)
  have s := stxt_size h4 h5 h6
  have o : (ByteArray.mk #[64]).size = 1 := rfl
  unfold ftxt
  split
  · rw [ByteArray.size_append, ByteArray.size_append]; omega
  · omega

set_option maxRecDepth 100000 in
set_option maxHeartbeats 1000000 in
theorem text_walk (a b c d e f : ByteArray) (x : Bool) (s : ByteArray) (w : World) (hF : FitF ⟨a, b, c, d, e, f, x⟩) :
    Calls Try.prog 6 #[.agg #[.string a, .string b, .string c, .string d, .string e, .string f, .bool x], .string s] w fun r w' => r = .returned (.bool true) ∧ Below w.heap.size w w' := by
  have HF := hid hF
  obtain ⟨m0, m1, m2, m3, m4, m5⟩ := hF
  simp only at m0 m1 m2 m3 m4 m5
  unfold maxLen at m0 m1 m2 m3 m4 m5
  go_enter Try.func6, Try.ntmps6
  go_wp2
  go_loopw [6] (fun i wr => ∃ k : Nat, k ≤ 6 ∧ i = .int .i64 k ∧ (0 < k → a.size ≤ 40) ∧ (1 < k → b.size ≤ 40) ∧ (2 < k → c.size ≤ 40) ∧ (3 < k → d.size ≤ 40) ∧ (4 < k → e.size ≤ 40) ∧ (5 < k → f.size ≤ 40) ∧ ((w.alloc (.cells #[.string a, .string b, .string c, .string d, .string e, .string f, .bool x] 48)).alloc (.cells #[.string a, .string b, .string c, .string d, .string e, .string f] 9)) = wr) (fun i _ => 6 - (intOf i).toNat)
  case atStart => exact ⟨0, by omega, rfl, fun h => absurd h (by omega), fun h => absurd h (by omega), fun h => absurd h (by omega), fun h => absurd h (by omega), fun h => absurd h (by omega), fun h => absurd h (by omega), rfl⟩
  case round =>
    obtain ⟨k, hk, rfl, h0, h1, h2, h3, h4, h5, rfl⟩ := hrel
    have H0 := hid h0; clear h0
    have H1 := hid h1; clear h1
    have H2 := hid h2; clear h2
    have H3 := hid h3; clear h3
    have H4 := hid h4; clear h4
    have H5 := hid h5; clear h5
    have hB : Below w.heap.size w ((w.alloc (.cells #[.string a, .string b, .string c, .string d, .string e, .string f, .bool x] 48)).alloc (.cells #[.string a, .string b, .string c, .string d, .string e, .string f] 9)) := g_alloc (g_alloc g_refl _) _
    rcases (show k = 0 ∨ k = 1 ∨ k = 2 ∨ k = 3 ∨ k = 4 ∨ k = 5 ∨ k = 6 by omega) with rfl | rfl | rfl | rfl | rfl | rfl | rfl <;> clear hk
    · by_cases hl : 40 < a.size
      · have hl2 : (40 : Int) < (a.size : Int) := by omega
        go_wp2_with fail
        refine (flives _).mono ?_
        rintro r w1 ⟨rfl, hw1⟩
        go_wp2
        go_ret
        exact ⟨rfl, g_trans hB hw1⟩
      · have hl2 : ¬ (40 : Int) < (a.size : Int) := by omega
        have HL : Hid (a.size ≤ 40) := hid (by omega)
        go_wp2
        go_roundw
        case rel => exact ⟨0+1, by omega, by go_num, fun _ => HL.out, fun h => absurd h (by omega), fun h => absurd h (by omega), fun h => absurd h (by omega), fun h => absurd h (by omega), fun h => absurd h (by omega), by trivial⟩
        case measure => simp [intOf]
    · by_cases hl : 40 < b.size
      · have hl2 : (40 : Int) < (b.size : Int) := by omega
        go_wp2_with fail
        refine (flives _).mono ?_
        rintro r w1 ⟨rfl, hw1⟩
        go_wp2
        go_ret
        exact ⟨rfl, g_trans hB hw1⟩
      · have hl2 : ¬ (40 : Int) < (b.size : Int) := by omega
        have HL : Hid (b.size ≤ 40) := hid (by omega)
        go_wp2
        go_roundw
        case rel => exact ⟨1+1, by omega, by go_num, fun _ => H0.out (by omega), fun _ => HL.out, fun h => absurd h (by omega), fun h => absurd h (by omega), fun h => absurd h (by omega), fun h => absurd h (by omega), by trivial⟩
        case measure => simp [intOf]
    · by_cases hl : 40 < c.size
      · have hl2 : (40 : Int) < (c.size : Int) := by omega
        go_wp2_with fail
        refine (flives _).mono ?_
        rintro r w1 ⟨rfl, hw1⟩
        go_wp2
        go_ret
        exact ⟨rfl, g_trans hB hw1⟩
      · have hl2 : ¬ (40 : Int) < (c.size : Int) := by omega
        have HL : Hid (c.size ≤ 40) := hid (by omega)
        go_wp2
        go_roundw
        case rel => exact ⟨2+1, by omega, by go_num, fun _ => H0.out (by omega), fun _ => H1.out (by omega), fun _ => HL.out, fun h => absurd h (by omega), fun h => absurd h (by omega), fun h => absurd h (by omega), by trivial⟩
        case measure => simp [intOf]
    · by_cases hl : 40 < d.size
      · have hl2 : (40 : Int) < (d.size : Int) := by omega
        go_wp2_with fail
        refine (flives _).mono ?_
        rintro r w1 ⟨rfl, hw1⟩
        go_wp2
        go_ret
        exact ⟨rfl, g_trans hB hw1⟩
      · have hl2 : ¬ (40 : Int) < (d.size : Int) := by omega
        have HL : Hid (d.size ≤ 40) := hid (by omega)
        go_wp2
        go_roundw
        case rel => exact ⟨3+1, by omega, by go_num, fun _ => H0.out (by omega), fun _ => H1.out (by omega), fun _ => H2.out (by omega), fun _ => HL.out, fun h => absurd h (by omega), fun h => absurd h (by omega), by trivial⟩
        case measure => simp [intOf]
    · by_cases hl : 40 < e.size
      · have hl2 : (40 : Int) < (e.size : Int) := by omega
        go_wp2_with fail
        refine (flives _).mono ?_
        rintro r w1 ⟨rfl, hw1⟩
        go_wp2
        go_ret
        exact ⟨rfl, g_trans hB hw1⟩
      · have hl2 : ¬ (40 : Int) < (e.size : Int) := by omega
        have HL : Hid (e.size ≤ 40) := hid (by omega)
        go_wp2
        go_roundw
        case rel => exact ⟨4+1, by omega, by go_num, fun _ => H0.out (by omega), fun _ => H1.out (by omega), fun _ => H2.out (by omega), fun _ => H3.out (by omega), fun _ => HL.out, fun h => absurd h (by omega), by trivial⟩
        case measure => simp [intOf]
    · by_cases hl : 40 < f.size
      · have hl2 : (40 : Int) < (f.size : Int) := by omega
        go_wp2_with fail
        refine (flives _).mono ?_
        rintro r w1 ⟨rfl, hw1⟩
        go_wp2
        go_ret
        exact ⟨rfl, g_trans hB hw1⟩
      · have hl2 : ¬ (40 : Int) < (f.size : Int) := by omega
        have HL : Hid (f.size ≤ 40) := hid (by omega)
        go_wp2
        go_roundw
        case rel => exact ⟨5+1, by omega, by go_num, fun _ => H0.out (by omega), fun _ => H1.out (by omega), fun _ => H2.out (by omega), fun _ => H3.out (by omega), fun _ => H4.out (by omega), fun _ => HL.out, by trivial⟩
        case measure => simp [intOf]
    · have hsf : SmallF ⟨a, b, c, d, e, f, x⟩ := ⟨H0.out (by omega), H1.out (by omega), H2.out (by omega), H3.out (by omega), H4.out (by omega), H5.out (by omega)⟩
      clear H0 H1 H2 H3 H4 H5 m0 m1 m2 m3 m4 m5
      by_cases hl : 150 < s.size
      · have hl2 : (150 : Int) < (s.size : Int) := by omega
        go_wp2_with fail
        refine (flives _).mono ?_
        rintro r w1 ⟨rfl, hw1⟩
        go_wp2
        go_ret
        exact ⟨rfl, g_trans hB hw1⟩
      · have hl2 : ¬ (150 : Int) < (s.size : Int) := by omega
        have hFB : FB ((w.alloc (.cells #[.string a, .string b, .string c, .string d, .string e, .string f, .bool x] 48)).alloc (.cells #[.string a, .string b, .string c, .string d, .string e, .string f] 9)) w.heap.size ⟨a, b, c, d, e, f, x⟩ := by simp only [FB]; exact ⟨by go_simp, by go_simp, by go_simp, by go_simp, by go_simp, by go_simp, by go_simp, by simp <;> omega⟩
        obtain ⟨t, ht⟩ : ∃ t, ftxt ⟨a, b, c, d, e, f, x⟩ = t := ⟨_, rfl⟩
        have hts := ftxt_size hsf
        rw [ht] at hts
        obtain ⟨n, hn⟩ : ∃ n, fchk ⟨a, b, c, d, e, f, x⟩ = n := ⟨_, rfl⟩
        have hbk : n = 0 → fpar t = (⟨a, b, c, d, e, f, x⟩, 0) := fun e0 => by rw [← ht]; exact back_fil (hn.trans e0)
        have HT := hid ht; clear ht
        have HN := hid hn; clear hn
        have HSF := hid hsf; clear hsf
        have HBK := hid hbk; clear hbk
        obtain ⟨c0, c1, c2, c3, c4, c5, c6, c7⟩ := hFB
        go_wp2_with fail
        refine (ftext_v a b c d e f x t _ HSF.out HT.out).mono ?_
        rintro r w1 ⟨rfl, hw1⟩
        have hFB1 := FB.keep (f := ⟨a, b, c, d, e, f, x⟩) ⟨c0, c1, c2, c3, c4, c5, c6, c7⟩ hw1
        have hB1 := g_trans hB hw1
        clear c0 c1 c2 c3 c4 c5 c6 c7 hw1 hB
        obtain ⟨c0, c1, c2, c3, c4, c5, c6, c7⟩ := hFB1
        have hS : w1.cell? ⟨w.heap.size, 0, none⟩ = some (.string a) ∧ w1.cell? ⟨w.heap.size, 1, none⟩ = some (.string b) ∧ w1.cell? ⟨w.heap.size, 2, none⟩ = some (.string c) ∧ w1.cell? ⟨w.heap.size, 3, none⟩ = some (.string d) ∧ w1.cell? ⟨w.heap.size, 4, none⟩ = some (.string e) ∧ w1.cell? ⟨w.heap.size, 5, none⟩ = some (.string f) ∧ w1.cell? ⟨w.heap.size, 6, none⟩ = some (.bool x) ∧ w.heap.size < w1.heap.size := ⟨c0, c1, c2, c3, c4, c5, c6, c7⟩
        clear c0 c1 c2 c3 c4 c5 c6 c7
        go_upto_region 10 with fail
        go_cut [59] (fun s59 wx => s59 = .bool false ∧ FB wx w.heap.size ⟨a, b, c, d, e, f, x⟩ ∧ Below w.heap.size w wx)
        case first =>
          go_region_held3 (fun w' => w'.cell? ⟨w.heap.size, 0, none⟩ = some (.string a) ∧ w'.cell? ⟨w.heap.size, 1, none⟩ = some (.string b) ∧ w'.cell? ⟨w.heap.size, 2, none⟩ = some (.string c) ∧ w'.cell? ⟨w.heap.size, 3, none⟩ = some (.string d) ∧ w'.cell? ⟨w.heap.size, 4, none⟩ = some (.string e) ∧ w'.cell? ⟨w.heap.size, 5, none⟩ = some (.string f) ∧ w'.cell? ⟨w.heap.size, 6, none⟩ = some (.bool x) ∧ w.heap.size < w'.heap.size) (first | assumption | exact fb_keep (by assumption) (by assumption) | exact fb_keep (g_drew g_refl) (by assumption))
            (first | (go_at_call 32; (with_reducible refine (fcheck_v a b c d e f x n _ HF.out HN.out).mono ?_); rintro r y1 ⟨rfl, hc1⟩) | (go_at_call 30; (with_reducible refine (rfcheck_v a b c d e f x n _ HF.out HN.out).mono ?_); rintro r y2 ⟨rfl, hc2⟩) | (go_at_call 33; (with_reducible refine (rftext_v a b c d e f x t _ HSF.out HT.out).mono ?_); rintro r y3 ⟨rfl, hc3⟩))
          all_goals
            obtain ⟨c0, c1, c2, c3, c4, c5, c6, c7⟩ := hS
            have hA : Below w1.heap.size w1 y3 := by repeat (first | (with_reducible exact g_refl) | (with_reducible refine g_drew ?_) | (with_reducible refine g_trans ?_ hc3) | (with_reducible refine g_trans ?_ hc2) | (with_reducible refine g_trans ?_ hc1))
            go_wp2_with fail
            go_meet
            exact ⟨rfl, FB.keep (f := ⟨a, b, c, d, e, f, x⟩) ⟨c0, c1, c2, c3, c4, c5, c6, c7⟩ hA, g_trans hB1 hA⟩
        case rest =>
          obtain ⟨rfl, hFB, hB⟩ := hcut
          have HFB := hid hFB; clear hFB
          have htm : t.size ≤ maxLen := Nat.le_trans hts (by decide)
          by_cases hn0 : n = 0
          · have HP := hid (HBK.out hn0)
            have HN0 := hid (HN.out.trans hn0)
            clear hn0
            go_wp2_with fail
            refine (fparse_v t a b c d e f x 0 _ htm HP.out).mono ?_
            rintro r w2 ⟨rfl, hw2⟩
            have HFB2 := hid ((HFB.out.keep hw2).keep (g_alloc g_refl (.cells #[.string a, .string b, .string c, .string d, .string e, .string f, .bool x] 48)))
            have HG2 : Hid (FB (w2.alloc (.cells #[.string a, .string b, .string c, .string d, .string e, .string f, .bool x] 48)) w2.heap.size ⟨a, b, c, d, e, f, x⟩) := hid (by simp only [FB]; exact ⟨by go_simp, by go_simp, by go_simp, by go_simp, by go_simp, by go_simp, by go_simp, by simp⟩)
            obtain ⟨c0, c1, c2, c3, c4, c5, c6, c7⟩ := HFB.out.keep hw2
            have hB2 := g_trans hB hw2
            clear hw2 hB
            go_wp2_with fail
            refine (rfcheck_v a b c d e f x 0 _ HF.out HN0.out).mono ?_
            rintro r w3 ⟨rfl, hw3⟩
            have HFB3 := hid (HFB2.out.keep hw3)
            have HG3 := hid (HG2.out.keep hw3)
            have hB3 := g_trans (g_alloc hB2 _) hw3
            clear c0 c1 c2 c3 c4 c5 c6 c7 hw3 hB2 HFB2 HG2
            obtain ⟨c0, c1, c2, c3, c4, c5, c6, c7⟩ := HFB3.out
            obtain ⟨d0, d1, d2, d3, d4, d5, d6, d7⟩ := HG3.out
            obtain ⟨⟨⟨ka, kb, kc, kd, ke, kf, kx⟩, kn⟩, hks⟩ : ∃ z, fpar s = z := ⟨_, rfl⟩
            have HKS := hid hks; clear hks
            go_wp2_with fail
            clear c0 c1 c2 c3 c4 c5 c6 c7 d0 d1 d2 d3 d4 d5 d6 d7
            refine (fparse_v s ka kb kc kd ke kf kx kn _ (Nat.le_trans (show s.size ≤ 150 by omega) (by decide)) HKS.out).mono ?_
            rintro r z1 ⟨rfl, hz1⟩
            have hC1 := g_trans hB3 hz1
            have HK1 : Hid (FB (z1.alloc (.cells #[.string ka, .string kb, .string kc, .string kd, .string ke, .string kf, .bool kx] 48)) z1.heap.size ⟨ka, kb, kc, kd, ke, kf, kx⟩) := hid (by simp only [FB]; exact ⟨by go_simp, by go_simp, by go_simp, by go_simp, by go_simp, by go_simp, by go_simp, by simp⟩)
            clear hz1 hB3
            go_wp2_with fail
            refine (rfparse_v s ka kb kc kd ke kf kx kn _ (by omega) HKS.out).mono ?_
            rintro r z2 ⟨rfl, hz2⟩
            have hC2 := g_trans (g_alloc hC1 _) hz2
            have HK2 := hid (HK1.out.keep hz2)
            clear hz2 HK1 hC1
            obtain ⟨c0, c1, c2, c3, c4, c5, c6, c7⟩ := HK2.out
            by_cases hk0 : kn = 0
            · subst hk0
              obtain ⟨htx, hsk⟩ := fpar_good HKS.out
              have HTX := hid htx
              have HSK := hid hsk
              clear htx hsk
              go_wp2_with fail
              refine (ftext_v ka kb kc kd ke kf kx s _ HSK.out HTX.out).mono ?_
              rintro r z3 ⟨rfl, hz3⟩
              go_wp2_with fail
              refine (flives _).mono ?_
              rintro r z4 ⟨rfl, hz4⟩
              go_wp2
              go_ret
              exact ⟨rfl, g_trans (g_trans (g_alloc hC2 _) hz3) hz4⟩
            · go_wp2_with fail
              refine (flives _).mono ?_
              rintro r z4 ⟨rfl, hz4⟩
              go_wp2
              go_ret
              exact ⟨rfl, g_trans (g_alloc hC2 _) hz4⟩
          · obtain ⟨⟨⟨ga, gb, gc, gd, ge, gf, gx⟩, gn⟩, hgs⟩ : ∃ z, fpar t = z := ⟨_, rfl⟩
            have HGS := hid hgs; clear hgs
            go_wp2_with fail
            refine (fparse_v t ga gb gc gd ge gf gx gn _ htm HGS.out).mono ?_
            rintro r w2 ⟨rfl, hw2⟩
            obtain ⟨c0, c1, c2, c3, c4, c5, c6, c7⟩ := HFB.out.keep hw2
            have hB2 := g_trans hB hw2
            clear hw2 hB
            go_wp2_with fail
            refine (rfcheck_v a b c d e f x n _ HF.out HN.out).mono ?_
            rintro r w3 ⟨rfl, hw3⟩
            have hB3 := g_trans (g_alloc hB2 _) hw3
            clear c0 c1 c2 c3 c4 c5 c6 c7 hw3 hB2
            obtain ⟨⟨⟨ka, kb, kc, kd, ke, kf, kx⟩, kn⟩, hks⟩ : ∃ z, fpar s = z := ⟨_, rfl⟩
            have HKS := hid hks; clear hks
            go_wp2_with fail
            refine (fparse_v s ka kb kc kd ke kf kx kn _ (Nat.le_trans (show s.size ≤ 150 by omega) (by decide)) HKS.out).mono ?_
            rintro r z1 ⟨rfl, hz1⟩
            have hC1 := g_trans hB3 hz1
            have HK1 : Hid (FB (z1.alloc (.cells #[.string ka, .string kb, .string kc, .string kd, .string ke, .string kf, .bool kx] 48)) z1.heap.size ⟨ka, kb, kc, kd, ke, kf, kx⟩) := hid (by simp only [FB]; exact ⟨by go_simp, by go_simp, by go_simp, by go_simp, by go_simp, by go_simp, by go_simp, by simp⟩)
            clear hz1 hB3
            go_wp2_with fail
            refine (rfparse_v s ka kb kc kd ke kf kx kn _ (by omega) HKS.out).mono ?_
            rintro r z2 ⟨rfl, hz2⟩
            have hC2 := g_trans (g_alloc hC1 _) hz2
            have HK2 := hid (HK1.out.keep hz2)
            clear hz2 HK1 hC1
            obtain ⟨c0, c1, c2, c3, c4, c5, c6, c7⟩ := HK2.out
            by_cases hk0 : kn = 0
            · subst hk0
              obtain ⟨htx, hsk⟩ := fpar_good HKS.out
              have HTX := hid htx
              have HSK := hid hsk
              clear htx hsk
              go_wp2_with fail
              refine (ftext_v ka kb kc kd ke kf kx s _ HSK.out HTX.out).mono ?_
              rintro r z3 ⟨rfl, hz3⟩
              go_wp2_with fail
              refine (flives _).mono ?_
              rintro r z4 ⟨rfl, hz4⟩
              go_wp2
              go_ret
              exact ⟨rfl, g_trans (g_trans (g_alloc hC2 _) hz3) hz4⟩
            · go_wp2_with fail
              refine (flives _).mono ?_
              rintro r z4 ⟨rfl, hz4⟩
              go_wp2
              go_ret
              exact ⟨rfl, g_trans (g_alloc hC2 _) hz4⟩
end Go.Proofs.Yteogmfgabnpleaa
