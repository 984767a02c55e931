/-
  TuplesErrors returns true: the walk.
-/
import Derived.Test.YthdpagkadcbeiaaTLSort
namespace Go.Proofs.Ythdpagkadcbeiaa
open Go.RowKit Go.Sort

/-- the argument T's cell -/
def TX (p : Nat) (C : Option Addr) (x : List (Nat × Nat)) (c : Nat) (w : World) : Prop := w.cell? ⟨p, 0, none⟩ = some (.slice C x.length c) ∧ p < w.heap.size ∧ RowN w C x
theorem TX.keep {p c : Nat} {C : Option Addr} {x : List (Nat × Nat)} {w w' : World} (h : TX p C x c w) (hb : Below w.heap.size w w') : TX p C x c w' :=
  ⟨(own_cells hb _ h.2.1 _).1.trans h.1, Nat.lt_of_lt_of_le h.2.1 hb.size, h.2.2.below hb⟩
theorem of_t (p : Nat) (C : Option Addr) (x : List (Nat × Nat)) (c : Nat) (X : List Tup) (w : World) (h : TX p C x c w) (hn : x.length ≤ maxLen) (hX : ofT x = X) :
    Calls Try.prog 18 #[.agg #[.slice C x.length c]] w fun e w' => (∃ A1 c1, e = .returned (.slice A1 X.length c1) ∧ Row w' A1 X) ∧ Below w.heap.size w w' := by
  subst hX
  refine (of_bx C x c w h.2.2 hn).mono fun e w' h => ?_
  obtain ⟨⟨A1, c1, e1, h1, -⟩, h2⟩ := h
  exact ⟨⟨A1, c1, e1, h1⟩, h2⟩
theorem tfindno_e (A : Option Addr) (l : List Tup) (c : Nat) (x : Tup) (w : World) (hR : Row w A l) (hA : isB cmpT l = false) (hn : l.length ≤ 20) :
    Calls Try.prog 29 #[.slice A l.length c, .agg #[.string x.a, .string x.b, .string x.c, .string x.d, .string x.e, .string x.f]] w fun e w' => e = .returned (.tuple #[.int .i64 0, .bool false]) ∧ Below w.heap.size w w' :=
  (tfind_no A l c x w hR hA (Nat.le_trans hn (by decide))).mono fun _ _ h => ⟨h.1, h.2.toBelow⟩
theorem ris_1 (A : Option Addr) (l : List Tup) (c : Nat) (w : World) (hR : Row w A l) (hF : ∀ x ∈ l, Fits x) (hn : l.length ≤ 20) (hv : isB cmpT l = true) :
    Calls Try.prog 23 #[.slice A l.length c] w fun e w' => e = .returned (.int .i64 1) ∧ Below w.heap.size w w' := ris_b A l c true w hR hF hn hv
theorem ris_0 (A : Option Addr) (l : List Tup) (c : Nat) (w : World) (hR : Row w A l) (hF : ∀ x ∈ l, Fits x) (hn : l.length ≤ 20) (hv : isB cmpT l = false) :
    Calls Try.prog 23 #[.slice A l.length c] w fun e w' => e = .returned (.int .i64 0) ∧ Below w.heap.size w w' := ris_b A l c false w hR hF hn hv
theorem union_w (A B : Option Addr) (la lb : List Tup) (ca cb : Nat) (w : World) (hR : Row w A la) (hS : Row w B lb) (hca : la.length ≤ ca) (hcb : lb.length ≤ cb) (ha : la.length ≤ 20) (hb : lb.length ≤ 20) (h1 : isB cmpT la = true) (h2 : isB cmpT lb = true) :
    Calls Try.prog 24 #[.slice A la.length ca, .slice B lb.length cb] w fun e w' => (∃ A1 n, e = .returned (.tuple #[.slice A1 n n, .int .i64 0])) ∧ Below w.heap.size w w' := by
  refine (union_yes A B la lb ca cb w hR hS hca hcb (by omega) (by omega) h1 h2).mono fun e w' h => ?_
  obtain ⟨A1, h1, h2, h3, -, -⟩ := h
  exact ⟨⟨A1, _, h1⟩, h3.toBelow⟩
theorem union_x (A B : Option Addr) (la lb : List Tup) (ca cb : Nat) (w : World) (hR : Row w A la) (hS : Row w B lb) (ha : la.length ≤ 20) (hb : lb.length ≤ 20) (h : isB cmpT la = false ∨ isB cmpT lb = false) :
    Calls Try.prog 24 #[.slice A la.length ca, .slice B lb.length cb] w fun e w' => e = .returned (.tuple #[.slice none 0 0, .int .i64 18]) ∧ Below w.heap.size w w' :=
  (union_no _ _ 18 w (choose_order _ A B la lb ca cb w hR hS (by omega) (by omega) h)).mono fun _ _ h => ⟨h.1, h.2.toBelow⟩
theorem common_w (A B : Option Addr) (la lb : List Tup) (ca cb : Nat) (w : World) (hR : Row w A la) (hS : Row w B lb) (hca : la.length ≤ ca) (hcb : lb.length ≤ cb) (ha : la.length ≤ 20) (hb : lb.length ≤ 20) (h1 : isB cmpT la = true) (h2 : isB cmpT lb = true) :
    Calls Try.prog 25 #[.slice A la.length ca, .slice B lb.length cb] w fun e w' => (∃ A1 n, e = .returned (.tuple #[.slice A1 n n, .int .i64 0])) ∧ Below w.heap.size w w' := by
  refine (common_yes A B la lb ca cb w hR hS hca hcb (by omega) (by omega) h1 h2).mono fun e w' h => ?_
  obtain ⟨A1, h1, h2, h3, -, -⟩ := h
  exact ⟨⟨A1, _, h1⟩, h3.toBelow⟩
theorem common_x (A B : Option Addr) (la lb : List Tup) (ca cb : Nat) (w : World) (hR : Row w A la) (hS : Row w B lb) (ha : la.length ≤ 20) (hb : lb.length ≤ 20) (h : isB cmpT la = false ∨ isB cmpT lb = false) :
    Calls Try.prog 25 #[.slice A la.length ca, .slice B lb.length cb] w fun e w' => e = .returned (.tuple #[.slice none 0 0, .int .i64 18]) ∧ Below w.heap.size w w' :=
  (common_no _ _ 18 w (choose_order _ A B la lb ca cb w hR hS (by omega) (by omega) h)).mono fun _ _ h => ⟨h.1, h.2.toBelow⟩
theorem without_w (A B : Option Addr) (la lb : List Tup) (ca cb : Nat) (w : World) (hR : Row w A la) (hS : Row w B lb) (hca : la.length ≤ ca) (hcb : lb.length ≤ cb) (ha : la.length ≤ 20) (hb : lb.length ≤ 20) (h1 : isB cmpT la = true) (h2 : isB cmpT lb = true) :
    Calls Try.prog 26 #[.slice A la.length ca, .slice B lb.length cb] w fun e w' => (∃ A1 n, e = .returned (.tuple #[.slice A1 n n, .int .i64 0])) ∧ Below w.heap.size w w' := by
  refine (without_yes A B la lb ca cb w hR hS hca hcb (by omega) (by omega) h1 h2).mono fun e w' h => ?_
  obtain ⟨A1, h1, h2, h3, -, -⟩ := h
  exact ⟨⟨A1, _, h1⟩, h3.toBelow⟩
theorem without_x (A B : Option Addr) (la lb : List Tup) (ca cb : Nat) (w : World) (hR : Row w A la) (hS : Row w B lb) (ha : la.length ≤ 20) (hb : lb.length ≤ 20) (h : isB cmpT la = false ∨ isB cmpT lb = false) :
    Calls Try.prog 26 #[.slice A la.length ca, .slice B lb.length cb] w fun e w' => e = .returned (.tuple #[.slice none 0 0, .int .i64 18]) ∧ Below w.heap.size w w' :=
  (without_no _ _ 18 w (choose_order _ A B la lb ca cb w hR hS (by omega) (by omega) h)).mono fun _ _ h => ⟨h.1, h.2.toBelow⟩

theorem err_long (A B C : Option Addr) (la lb : List Tup) (ca cb c : Nat) (x : List (Nat × Nat)) (w : World) (h : 20 < la.length ∨ 20 < lb.length) :
    Calls Try.prog 7 #[.slice A la.length ca, .slice B lb.length cb, .agg #[.slice C x.length c]] w fun e w' => e = .returned (.bool true) ∧ Below w.heap.size w w' := by
  by_cases h1 : (20 : Int) < la.length
  · go_enter Try.func7, Try.ntmps7
    go_wp2_with fail
    refine (lives_any _).mono ?_
    rintro e w' ⟨rfl, hw⟩
    go_wp2
    go_ret
    exact ⟨rfl, g_trans (g_alloc g_refl _) hw⟩
  · have h2 : (20 : Int) < lb.length := by omega
    go_enter Try.func7, Try.ntmps7
    go_wp2_with fail
    refine (lives_any _).mono ?_
    rintro e w' ⟨rfl, hw⟩
    go_wp2
    go_ret
    exact ⟨rfl, g_trans (g_alloc g_refl _) hw⟩

set_option maxRecDepth 100000 in
set_option maxHeartbeats 16000000 in
theorem err_short (A B C : Option Addr) (la lb : List Tup) (ca cb c : Nat) (x : List (Nat × Nat)) (w : World) (hR : Row w A la) (hS : Row w B lb) (hT : RowN w C x) (hca : la.length ≤ ca) (hcb : lb.length ≤ cb) (hx : x.length ≤ maxLen) (hF : ∀ y ∈ la, Fits y) (hG : ∀ y ∈ lb, Fits y) (ha : la.length ≤ 20) (hb : lb.length ≤ 20) :
    Calls Try.prog 7 #[.slice A la.length ca, .slice B lb.length cb, .agg #[.slice C x.length c]] w fun e w' => e = .returned (.bool true) ∧ Below w.heap.size w w' := by
  have h1 : ¬ (20 : Int) < la.length := by omega
  have h2 : ¬ (20 : Int) < lb.length := by omega
  go_enter Try.func7, Try.ntmps7
  have HX := hid hx
  have FA := hid hF
  have FB := hid hG
  have lX := ofT_len x
  have fX := ofT_fits x
  obtain ⟨X, hX⟩ : ∃ X, ofT x = X := ⟨_, rfl⟩
  rw [hX] at lX fX
  have EX := hid hX
  have FX := hid fX
  have CA := hid hca
  have CB := hid hcb
  obtain ⟨z1, hz1⟩ : ∃ z, isB cmpT la = z := ⟨_, rfl⟩
  obtain ⟨z2, hz2⟩ : ∃ z, isB cmpT lb = z := ⟨_, rfl⟩
  obtain ⟨z3, hz3⟩ : ∃ z, isB cmpT X = z := ⟨_, rfl⟩
  have HZ1 := hid hz1
  have HZ2 := hid hz2
  have HZ3 := hid hz3
  clear hx hF hG hX fX hca hcb hz1 hz2 hz3
  have hb0 : Below w.heap.size w (w.alloc (.cells #[.slice C x.length c] 44)) := g_alloc g_refl _
  have HB0 := hid hb0
  have HP0 := hid (hR.below hb0)
  have HQ0 := hid (hS.below hb0)
  have HT0 : Hid (TX w.heap.size C x c (w.alloc (.cells #[.slice C x.length c] 44))) := hid ⟨by go_simp, by simp, hT.below hb0⟩
  clear hR hS hT hb0
  go_wp2_with fail
  generalize w.alloc (.cells #[.slice C x.length c] 44) = W0 at *

  cases z1 <;> cases z2
  · refine (ris_0 A la ca _ HP0.out FA.out ha HZ1.out).mono ?_
    rintro e w1 ⟨rfl, hw1⟩
    have HB1 := hid (g_trans HB0.out hw1)
    have HP1 := hid (HP0.out.below hw1)
    have HQ1 := hid (HQ0.out.below hw1)
    have HT1 := hid (HT0.out.keep hw1)
    clear hw1 HB0 HP0 HQ0 HT0
    go_wp2_with fail
    refine (ris_0 B lb cb _ HQ1.out FB.out hb HZ2.out).mono ?_
    rintro e w2 ⟨rfl, hw2⟩
    have HB2 := hid (g_trans HB1.out hw2)
    have HP2 := hid (HP1.out.below hw2)
    have HQ2 := hid (HQ1.out.below hw2)
    have HT2 := hid (HT1.out.keep hw2)
    clear hw2 HB1 HP1 HQ1 HT1
    go_wp2_with fail
    refine (union_x A B la lb ca cb _ HP2.out HQ2.out ha hb (.inl HZ1.out)).mono ?_
    rintro e w3 ⟨rfl, hw3⟩
    have HB3 := hid (g_trans HB2.out hw3)
    have HP3 := hid (HP2.out.below hw3)
    have HQ3 := hid (HQ2.out.below hw3)
    have HT3 := hid (HT2.out.keep hw3)
    clear hw3 HB2 HP2 HQ2 HT2
    go_wp2_with fail
    refine (common_x A B la lb ca cb _ HP3.out HQ3.out ha hb (.inl HZ1.out)).mono ?_
    rintro e w4 ⟨rfl, hw4⟩
    have HB4 := hid (g_trans HB3.out hw4)
    have HP4 := hid (HP3.out.below hw4)
    have HQ4 := hid (HQ3.out.below hw4)
    have HT4 := hid (HT3.out.keep hw4)
    clear hw4 HB3 HP3 HQ3 HT3
    go_wp2_with fail
    refine (without_x A B la lb ca cb _ HP4.out HQ4.out ha hb (.inl HZ1.out)).mono ?_
    rintro e w5 ⟨rfl, hw5⟩
    have HB5 := hid (g_trans HB4.out hw5)
    have HP5 := hid (HP4.out.below hw5)
    have HQ5 := hid (HQ4.out.below hw5)
    have HT5 := hid (HT4.out.keep hw5)
    clear hw5 HB4 HP4 HQ4 HT4
    go_wp2_with fail
    refine (tis_b A la ca false _ HP5.out ha HZ1.out).mono ?_
    rintro e w6 ⟨rfl, hw6⟩
    have HB6 := hid (g_trans HB5.out hw6)
    have HP6 := hid (HP5.out.below hw6)
    have HQ6 := hid (HQ5.out.below hw6)
    have HT6 := hid (HT5.out.keep hw6)
    clear hw6 HB5 HP5 HQ5 HT5
    go_wp2_with fail
    refine (ris_0 A la ca _ HP6.out FA.out ha HZ1.out).mono ?_
    rintro e w7 ⟨rfl, hw7⟩
    have HB7 := hid (g_trans HB6.out hw7)
    have HP7 := hid (HP6.out.below hw7)
    have HQ7 := hid (HQ6.out.below hw7)
    have HT7 := hid (HT6.out.keep hw7)
    clear hw7 HB6 HP6 HQ6 HT6
    clear HQ7
    clear HP7
    obtain ⟨b0, b1, b2⟩ := HT7.out
    go_wp2_with fail
    clear b0 b1 b2
    refine (of_t w.heap.size C x c X _ HT7.out HX.out EX.out).mono ?_
    rintro e w8 ⟨⟨A3, c3, rfl, hR3⟩, hw8⟩
    have HB8 := hid (g_trans HB7.out hw8)
    have HT8 := hid (HT7.out.keep hw8)
    clear hw8 HB7 HT7
    have HR8 := hid hR3
    clear hR3
    clear HT8
    go_wp2_with fail
    cases z3
    · refine (ris_0 A3 X c3 _ HR8.out FX.out lX HZ3.out).mono ?_
      rintro e w9 ⟨rfl, hw9⟩
      have HB9 := hid (g_trans HB8.out hw9)
      have HR9 := hid (HR8.out.below hw9)
      clear hw9 HB8 HR8
      go_wp2
      go_loopw [15] (fun i wr => ∃ k : Nat, k ≤ X.length ∧ i = .int .i64 k ∧ Below w.heap.size w wr ∧ Row wr A3 X) (fun i _ => X.length - (intOf i).toNat)
      case atStart => exact ⟨0, Nat.zero_le _, rfl, HB9.out, HR9.out⟩
      case round =>
        clear HB9 HR9
        obtain ⟨k, hk, rfl, hB, hRow⟩ := hrel
        have HB := hid hB
        have HR := hid hRow
        clear hB hRow
        by_cases hlt : k < X.length
        · obtain ⟨b1, o1, rfl, hL⟩ := HR.out.at_ hlt
          obtain ⟨q0, q1, q2, q3, q4, q5⟩ := (hL.six hlt).at0
          clear hL
          go_wp2_with fail
          refine (tfindno_e _ X c3 X[k] _ HR.out HZ3.out lX).mono ?_
          rintro e w' ⟨rfl, hw⟩
          have hR' := HR.out.below hw
          have hB' := g_trans HB.out hw
          clear q0 q1 q2 q3 q4 q5 hw HB HR
          go_wp2
          go_roundw
          case rel => exact ⟨k + 1, by omega, by go_num, hB', hR'⟩
          case measure => simp [intOf]; omega
        · go_wp2_with fail
          refine (lives_any _).mono ?_
          rintro e w' ⟨rfl, hw⟩
          go_wp2
          go_ret
          exact ⟨rfl, g_trans HB.out hw⟩
    · refine (ris_1 A3 X c3 _ HR8.out FX.out lX HZ3.out).mono ?_
      rintro e w9 ⟨rfl, hw9⟩
      have HB9 := hid (g_trans HB8.out hw9)
      have HR9 := hid (HR8.out.below hw9)
      clear hw9 HB8 HR8
      go_wp2_with fail
      refine (lives_any _).mono ?_
      rintro e w' ⟨rfl, hw⟩
      go_wp2
      go_ret
      exact ⟨rfl, g_trans HB9.out hw⟩
  · refine (ris_0 A la ca _ HP0.out FA.out ha HZ1.out).mono ?_
    rintro e w1 ⟨rfl, hw1⟩
    have HB1 := hid (g_trans HB0.out hw1)
    have HP1 := hid (HP0.out.below hw1)
    have HQ1 := hid (HQ0.out.below hw1)
    have HT1 := hid (HT0.out.keep hw1)
    clear hw1 HB0 HP0 HQ0 HT0
    go_wp2_with fail
    refine (ris_1 B lb cb _ HQ1.out FB.out hb HZ2.out).mono ?_
    rintro e w2 ⟨rfl, hw2⟩
    have HB2 := hid (g_trans HB1.out hw2)
    have HP2 := hid (HP1.out.below hw2)
    have HQ2 := hid (HQ1.out.below hw2)
    have HT2 := hid (HT1.out.keep hw2)
    clear hw2 HB1 HP1 HQ1 HT1
    go_wp2_with fail
    refine (union_x A B la lb ca cb _ HP2.out HQ2.out ha hb (.inl HZ1.out)).mono ?_
    rintro e w3 ⟨rfl, hw3⟩
    have HB3 := hid (g_trans HB2.out hw3)
    have HP3 := hid (HP2.out.below hw3)
    have HQ3 := hid (HQ2.out.below hw3)
    have HT3 := hid (HT2.out.keep hw3)
    clear hw3 HB2 HP2 HQ2 HT2
    go_wp2_with fail
    refine (common_x A B la lb ca cb _ HP3.out HQ3.out ha hb (.inl HZ1.out)).mono ?_
    rintro e w4 ⟨rfl, hw4⟩
    have HB4 := hid (g_trans HB3.out hw4)
    have HP4 := hid (HP3.out.below hw4)
    have HQ4 := hid (HQ3.out.below hw4)
    have HT4 := hid (HT3.out.keep hw4)
    clear hw4 HB3 HP3 HQ3 HT3
    go_wp2_with fail
    refine (without_x A B la lb ca cb _ HP4.out HQ4.out ha hb (.inl HZ1.out)).mono ?_
    rintro e w5 ⟨rfl, hw5⟩
    have HB5 := hid (g_trans HB4.out hw5)
    have HP5 := hid (HP4.out.below hw5)
    have HQ5 := hid (HQ4.out.below hw5)
    have HT5 := hid (HT4.out.keep hw5)
    clear hw5 HB4 HP4 HQ4 HT4
    go_wp2_with fail
    refine (tis_b A la ca false _ HP5.out ha HZ1.out).mono ?_
    rintro e w6 ⟨rfl, hw6⟩
    have HB6 := hid (g_trans HB5.out hw6)
    have HP6 := hid (HP5.out.below hw6)
    have HQ6 := hid (HQ5.out.below hw6)
    have HT6 := hid (HT5.out.keep hw6)
    clear hw6 HB5 HP5 HQ5 HT5
    go_wp2_with fail
    refine (ris_0 A la ca _ HP6.out FA.out ha HZ1.out).mono ?_
    rintro e w7 ⟨rfl, hw7⟩
    have HB7 := hid (g_trans HB6.out hw7)
    have HP7 := hid (HP6.out.below hw7)
    have HQ7 := hid (HQ6.out.below hw7)
    have HT7 := hid (HT6.out.keep hw7)
    clear hw7 HB6 HP6 HQ6 HT6
    clear HQ7
    clear HP7
    obtain ⟨b0, b1, b2⟩ := HT7.out
    go_wp2_with fail
    clear b0 b1 b2
    refine (of_t w.heap.size C x c X _ HT7.out HX.out EX.out).mono ?_
    rintro e w8 ⟨⟨A3, c3, rfl, hR3⟩, hw8⟩
    have HB8 := hid (g_trans HB7.out hw8)
    have HT8 := hid (HT7.out.keep hw8)
    clear hw8 HB7 HT7
    have HR8 := hid hR3
    clear hR3
    clear HT8
    go_wp2_with fail
    cases z3
    · refine (ris_0 A3 X c3 _ HR8.out FX.out lX HZ3.out).mono ?_
      rintro e w9 ⟨rfl, hw9⟩
      have HB9 := hid (g_trans HB8.out hw9)
      have HR9 := hid (HR8.out.below hw9)
      clear hw9 HB8 HR8
      go_wp2
      go_loopw [15] (fun i wr => ∃ k : Nat, k ≤ X.length ∧ i = .int .i64 k ∧ Below w.heap.size w wr ∧ Row wr A3 X) (fun i _ => X.length - (intOf i).toNat)
      case atStart => exact ⟨0, Nat.zero_le _, rfl, HB9.out, HR9.out⟩
      case round =>
        clear HB9 HR9
        obtain ⟨k, hk, rfl, hB, hRow⟩ := hrel
        have HB := hid hB
        have HR := hid hRow
        clear hB hRow
        by_cases hlt : k < X.length
        · obtain ⟨b1, o1, rfl, hL⟩ := HR.out.at_ hlt
          obtain ⟨q0, q1, q2, q3, q4, q5⟩ := (hL.six hlt).at0
          clear hL
          go_wp2_with fail
          refine (tfindno_e _ X c3 X[k] _ HR.out HZ3.out lX).mono ?_
          rintro e w' ⟨rfl, hw⟩
          have hR' := HR.out.below hw
          have hB' := g_trans HB.out hw
          clear q0 q1 q2 q3 q4 q5 hw HB HR
          go_wp2
          go_roundw
          case rel => exact ⟨k + 1, by omega, by go_num, hB', hR'⟩
          case measure => simp [intOf]; omega
        · go_wp2_with fail
          refine (lives_any _).mono ?_
          rintro e w' ⟨rfl, hw⟩
          go_wp2
          go_ret
          exact ⟨rfl, g_trans HB.out hw⟩
    · refine (ris_1 A3 X c3 _ HR8.out FX.out lX HZ3.out).mono ?_
      rintro e w9 ⟨rfl, hw9⟩
      have HB9 := hid (g_trans HB8.out hw9)
      have HR9 := hid (HR8.out.below hw9)
      clear hw9 HB8 HR8
      go_wp2_with fail
      refine (lives_any _).mono ?_
      rintro e w' ⟨rfl, hw⟩
      go_wp2
      go_ret
      exact ⟨rfl, g_trans HB9.out hw⟩
  · refine (ris_1 A la ca _ HP0.out FA.out ha HZ1.out).mono ?_
    rintro e w1 ⟨rfl, hw1⟩
    have HB1 := hid (g_trans HB0.out hw1)
    have HP1 := hid (HP0.out.below hw1)
    have HQ1 := hid (HQ0.out.below hw1)
    have HT1 := hid (HT0.out.keep hw1)
    clear hw1 HB0 HP0 HQ0 HT0
    go_wp2_with fail
    refine (ris_0 B lb cb _ HQ1.out FB.out hb HZ2.out).mono ?_
    rintro e w2 ⟨rfl, hw2⟩
    have HB2 := hid (g_trans HB1.out hw2)
    have HP2 := hid (HP1.out.below hw2)
    have HQ2 := hid (HQ1.out.below hw2)
    have HT2 := hid (HT1.out.keep hw2)
    clear hw2 HB1 HP1 HQ1 HT1
    go_wp2_with fail
    refine (union_x A B la lb ca cb _ HP2.out HQ2.out ha hb (.inr HZ2.out)).mono ?_
    rintro e w3 ⟨rfl, hw3⟩
    have HB3 := hid (g_trans HB2.out hw3)
    have HP3 := hid (HP2.out.below hw3)
    have HQ3 := hid (HQ2.out.below hw3)
    have HT3 := hid (HT2.out.keep hw3)
    clear hw3 HB2 HP2 HQ2 HT2
    go_wp2_with fail
    refine (common_x A B la lb ca cb _ HP3.out HQ3.out ha hb (.inr HZ2.out)).mono ?_
    rintro e w4 ⟨rfl, hw4⟩
    have HB4 := hid (g_trans HB3.out hw4)
    have HP4 := hid (HP3.out.below hw4)
    have HQ4 := hid (HQ3.out.below hw4)
    have HT4 := hid (HT3.out.keep hw4)
    clear hw4 HB3 HP3 HQ3 HT3
    go_wp2_with fail
    refine (without_x A B la lb ca cb _ HP4.out HQ4.out ha hb (.inr HZ2.out)).mono ?_
    rintro e w5 ⟨rfl, hw5⟩
    have HB5 := hid (g_trans HB4.out hw5)
    have HP5 := hid (HP4.out.below hw5)
    have HQ5 := hid (HQ4.out.below hw5)
    have HT5 := hid (HT4.out.keep hw5)
    clear hw5 HB4 HP4 HQ4 HT4
    go_wp2_with fail
    refine (tis_b A la ca true _ HP5.out ha HZ1.out).mono ?_
    rintro e w6 ⟨rfl, hw6⟩
    have HB6 := hid (g_trans HB5.out hw6)
    have HP6 := hid (HP5.out.below hw6)
    have HQ6 := hid (HQ5.out.below hw6)
    have HT6 := hid (HT5.out.keep hw6)
    clear hw6 HB5 HP5 HQ5 HT5
    go_wp2_with fail
    refine (ris_1 A la ca _ HP6.out FA.out ha HZ1.out).mono ?_
    rintro e w7 ⟨rfl, hw7⟩
    have HB7 := hid (g_trans HB6.out hw7)
    have HP7 := hid (HP6.out.below hw7)
    have HQ7 := hid (HQ6.out.below hw7)
    have HT7 := hid (HT6.out.keep hw7)
    clear hw7 HB6 HP6 HQ6 HT6
    clear HQ7
    clear HP7
    obtain ⟨b0, b1, b2⟩ := HT7.out
    go_wp2_with fail
    clear b0 b1 b2
    refine (of_t w.heap.size C x c X _ HT7.out HX.out EX.out).mono ?_
    rintro e w8 ⟨⟨A3, c3, rfl, hR3⟩, hw8⟩
    have HB8 := hid (g_trans HB7.out hw8)
    have HT8 := hid (HT7.out.keep hw8)
    clear hw8 HB7 HT7
    have HR8 := hid hR3
    clear hR3
    clear HT8
    go_wp2_with fail
    cases z3
    · refine (ris_0 A3 X c3 _ HR8.out FX.out lX HZ3.out).mono ?_
      rintro e w9 ⟨rfl, hw9⟩
      have HB9 := hid (g_trans HB8.out hw9)
      have HR9 := hid (HR8.out.below hw9)
      clear hw9 HB8 HR8
      go_wp2
      go_loopw [15] (fun i wr => ∃ k : Nat, k ≤ X.length ∧ i = .int .i64 k ∧ Below w.heap.size w wr ∧ Row wr A3 X) (fun i _ => X.length - (intOf i).toNat)
      case atStart => exact ⟨0, Nat.zero_le _, rfl, HB9.out, HR9.out⟩
      case round =>
        clear HB9 HR9
        obtain ⟨k, hk, rfl, hB, hRow⟩ := hrel
        have HB := hid hB
        have HR := hid hRow
        clear hB hRow
        by_cases hlt : k < X.length
        · obtain ⟨b1, o1, rfl, hL⟩ := HR.out.at_ hlt
          obtain ⟨q0, q1, q2, q3, q4, q5⟩ := (hL.six hlt).at0
          clear hL
          go_wp2_with fail
          refine (tfindno_e _ X c3 X[k] _ HR.out HZ3.out lX).mono ?_
          rintro e w' ⟨rfl, hw⟩
          have hR' := HR.out.below hw
          have hB' := g_trans HB.out hw
          clear q0 q1 q2 q3 q4 q5 hw HB HR
          go_wp2
          go_roundw
          case rel => exact ⟨k + 1, by omega, by go_num, hB', hR'⟩
          case measure => simp [intOf]; omega
        · go_wp2_with fail
          refine (lives_any _).mono ?_
          rintro e w' ⟨rfl, hw⟩
          go_wp2
          go_ret
          exact ⟨rfl, g_trans HB.out hw⟩
    · refine (ris_1 A3 X c3 _ HR8.out FX.out lX HZ3.out).mono ?_
      rintro e w9 ⟨rfl, hw9⟩
      have HB9 := hid (g_trans HB8.out hw9)
      have HR9 := hid (HR8.out.below hw9)
      clear hw9 HB8 HR8
      go_wp2_with fail
      refine (lives_any _).mono ?_
      rintro e w' ⟨rfl, hw⟩
      go_wp2
      go_ret
      exact ⟨rfl, g_trans HB9.out hw⟩
  · refine (ris_1 A la ca _ HP0.out FA.out ha HZ1.out).mono ?_
    rintro e w1 ⟨rfl, hw1⟩
    have HB1 := hid (g_trans HB0.out hw1)
    have HP1 := hid (HP0.out.below hw1)
    have HQ1 := hid (HQ0.out.below hw1)
    have HT1 := hid (HT0.out.keep hw1)
    clear hw1 HB0 HP0 HQ0 HT0
    go_wp2_with fail
    refine (ris_1 B lb cb _ HQ1.out FB.out hb HZ2.out).mono ?_
    rintro e w2 ⟨rfl, hw2⟩
    have HB2 := hid (g_trans HB1.out hw2)
    have HP2 := hid (HP1.out.below hw2)
    have HQ2 := hid (HQ1.out.below hw2)
    have HT2 := hid (HT1.out.keep hw2)
    clear hw2 HB1 HP1 HQ1 HT1
    go_wp2_with fail
    refine (union_w A B la lb ca cb _ HP2.out HQ2.out CA.out CB.out ha hb HZ1.out HZ2.out).mono ?_
    rintro e w3 ⟨⟨Au, nu, rfl⟩, hw3⟩
    have HB3 := hid (g_trans HB2.out hw3)
    have HP3 := hid (HP2.out.below hw3)
    have HQ3 := hid (HQ2.out.below hw3)
    have HT3 := hid (HT2.out.keep hw3)
    clear hw3 HB2 HP2 HQ2 HT2
    go_wp2_with fail
    refine (common_w A B la lb ca cb _ HP3.out HQ3.out CA.out CB.out ha hb HZ1.out HZ2.out).mono ?_
    rintro e w4 ⟨⟨Am, nm, rfl⟩, hw4⟩
    have HB4 := hid (g_trans HB3.out hw4)
    have HP4 := hid (HP3.out.below hw4)
    have HQ4 := hid (HQ3.out.below hw4)
    have HT4 := hid (HT3.out.keep hw4)
    clear hw4 HB3 HP3 HQ3 HT3
    go_wp2_with fail
    refine (without_w A B la lb ca cb _ HP4.out HQ4.out CA.out CB.out ha hb HZ1.out HZ2.out).mono ?_
    rintro e w5 ⟨⟨Ao, no, rfl⟩, hw5⟩
    have HB5 := hid (g_trans HB4.out hw5)
    have HP5 := hid (HP4.out.below hw5)
    have HQ5 := hid (HQ4.out.below hw5)
    have HT5 := hid (HT4.out.keep hw5)
    clear hw5 HB4 HP4 HQ4 HT4
    go_wp2_with fail
    refine (tis_b A la ca true _ HP5.out ha HZ1.out).mono ?_
    rintro e w6 ⟨rfl, hw6⟩
    have HB6 := hid (g_trans HB5.out hw6)
    have HP6 := hid (HP5.out.below hw6)
    have HQ6 := hid (HQ5.out.below hw6)
    have HT6 := hid (HT5.out.keep hw6)
    clear hw6 HB5 HP5 HQ5 HT5
    go_wp2_with fail
    refine (ris_1 A la ca _ HP6.out FA.out ha HZ1.out).mono ?_
    rintro e w7 ⟨rfl, hw7⟩
    have HB7 := hid (g_trans HB6.out hw7)
    have HP7 := hid (HP6.out.below hw7)
    have HQ7 := hid (HQ6.out.below hw7)
    have HT7 := hid (HT6.out.keep hw7)
    clear hw7 HB6 HP6 HQ6 HT6
    clear HQ7
    clear HP7
    obtain ⟨b0, b1, b2⟩ := HT7.out
    go_wp2_with fail
    clear b0 b1 b2
    refine (of_t w.heap.size C x c X _ HT7.out HX.out EX.out).mono ?_
    rintro e w8 ⟨⟨A3, c3, rfl, hR3⟩, hw8⟩
    have HB8 := hid (g_trans HB7.out hw8)
    have HT8 := hid (HT7.out.keep hw8)
    clear hw8 HB7 HT7
    have HR8 := hid hR3
    clear hR3
    clear HT8
    go_wp2_with fail
    cases z3
    · refine (ris_0 A3 X c3 _ HR8.out FX.out lX HZ3.out).mono ?_
      rintro e w9 ⟨rfl, hw9⟩
      have HB9 := hid (g_trans HB8.out hw9)
      have HR9 := hid (HR8.out.below hw9)
      clear hw9 HB8 HR8
      go_wp2
      go_loopw [15] (fun i wr => ∃ k : Nat, k ≤ X.length ∧ i = .int .i64 k ∧ Below w.heap.size w wr ∧ Row wr A3 X) (fun i _ => X.length - (intOf i).toNat)
      case atStart => exact ⟨0, Nat.zero_le _, rfl, HB9.out, HR9.out⟩
      case round =>
        clear HB9 HR9
        obtain ⟨k, hk, rfl, hB, hRow⟩ := hrel
        have HB := hid hB
        have HR := hid hRow
        clear hB hRow
        by_cases hlt : k < X.length
        · obtain ⟨b1, o1, rfl, hL⟩ := HR.out.at_ hlt
          obtain ⟨q0, q1, q2, q3, q4, q5⟩ := (hL.six hlt).at0
          clear hL
          go_wp2_with fail
          refine (tfindno_e _ X c3 X[k] _ HR.out HZ3.out lX).mono ?_
          rintro e w' ⟨rfl, hw⟩
          have hR' := HR.out.below hw
          have hB' := g_trans HB.out hw
          clear q0 q1 q2 q3 q4 q5 hw HB HR
          go_wp2
          go_roundw
          case rel => exact ⟨k + 1, by omega, by go_num, hB', hR'⟩
          case measure => simp [intOf]; omega
        · go_wp2_with fail
          refine (lives_any _).mono ?_
          rintro e w' ⟨rfl, hw⟩
          go_wp2
          go_ret
          exact ⟨rfl, g_trans HB.out hw⟩
    · refine (ris_1 A3 X c3 _ HR8.out FX.out lX HZ3.out).mono ?_
      rintro e w9 ⟨rfl, hw9⟩
      have HB9 := hid (g_trans HB8.out hw9)
      have HR9 := hid (HR8.out.below hw9)
      clear hw9 HB8 HR8
      go_wp2_with fail
      refine (lives_any _).mono ?_
      rintro e w' ⟨rfl, hw⟩
      go_wp2
      go_ret
      exact ⟨rfl, g_trans HB9.out hw⟩

theorem err_walk (A B C : Option Addr) (la lb : List Tup) (ca cb c : Nat) (x : List (Nat × Nat)) (w : World) (hR : Row w A la) (hS : Row w B lb) (hT : RowN w C x) (hca : la.length ≤ ca) (hcb : lb.length ≤ cb) (hx : x.length ≤ maxLen) (hF : ∀ y ∈ la, Fits y) (hG : ∀ y ∈ lb, Fits y) :
    Calls Try.prog 7 #[.slice A la.length ca, .slice B lb.length cb, .agg #[.slice C x.length c]] w fun e w' => e = .returned (.bool true) ∧ Below w.heap.size w w' := by
  by_cases h : 20 < la.length ∨ 20 < lb.length
  · exact err_long A B C la lb ca cb c x w h
  · exact err_short A B C la lb ca cb c x w hR hS hT hca hcb hx hF hG (by omega) (by omega)

end Go.Proofs.Ythdpagkadcbeiaa
