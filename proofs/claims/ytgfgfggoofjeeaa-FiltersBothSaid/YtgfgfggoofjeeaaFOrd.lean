/-
  THE CONTRACTS of filters.order, of sort.Search with the closure of search, and of search.
-/
import Derived.Test.YtgfgfggoofjeeaaFTak
namespace Go.Proofs.Ytgfgfggoofjeeaa
open Go.RowKit Go.Sort

theorem ordL_e {p u : ByteArray} {r : List (ByteArray × ByteArray)} {z : Int} (h : p.toList.isEmpty = true) : ordL ((p, u) :: r) z = 0 := by simp only [ordL]; rw [if_pos h]
theorem ordL_z {p u : ByteArray} {r : List (ByteArray × ByteArray)} {z : Int} (h : p.toList.isEmpty = false) (k : cmpS u p = 0) : ordL ((p, u) :: r) z = ordL r z := by simp only [ordL]; rw [if_neg (by rw [h]; decide), if_pos k]
theorem ordL_n {p u : ByteArray} {r : List (ByteArray × ByteArray)} {z v : Int} (h : p.toList.isEmpty = false) (k : cmpS u p = v) (n : ¬ v = 0) : ordL ((p, u) :: r) z = v := by simp only [ordL]; rw [if_neg (by rw [h]; decide), if_neg (by rw [k]; exact n), k]

set_option maxRecDepth 20000 in
set_option maxHeartbeats 4000000 in
theorem order_false (a b c d e f ta tb tc td te tf : ByteArray) (w : World) :
    Calls Try.prog 45 #[.agg #[.string a, .string b, .string c, .string d, .string e, .string f, .bool false], .agg #[.string ta, .string tb, .string tc, .string td, .string te, .string tf]] w fun r w' => r = .returned (.int .i64 (ford ⟨a, b, c, d, e, f, false⟩ ⟨ta, tb, tc, td, te, tf⟩)) ∧ Grew w w' := by
  have i0 := pr0 a ta b tb c tc
  have i1 := pr1 a ta b tb c tc
  have i2 := pr2 a ta b tb c tc
  go_enter Try.func45, Try.ntmps45
  go_wp2_with fail
  refine (goalPairs_any a b c d e f false ta tb tc _).mono ?_
  rintro r w1 ⟨rfl, hw1⟩
  have HFB : Hid (FB w1 w.heap.size ⟨a, b, c, d, e, f, false⟩) := hid (FB.keep (by simp only [FB]; exact ⟨by go_simp, by go_simp, by go_simp, by go_simp, by go_simp, by go_simp, by go_simp, by simp <;> omega⟩) hw1.toBelow)
  have HTC : Hid (Tc w1 (w.heap.size + 1) ⟨ta, tb, tc, td, te, tf⟩) := hid (Tc.keep (by simp only [Tc]; exact ⟨by go_simp, by go_simp, by go_simp, by go_simp, by go_simp, by go_simp, by simp⟩) hw1.toBelow)
  have hB1 : Grew w w1 := gw_trans (gw_alloc (gw_alloc gw_refl _) _) hw1
  clear hw1
  go_wp2
  go_loopw [12] (fun i wr => ∃ k : Nat, k ≤ 3 ∧ i = .int .i64 k ∧ (0 < k → a.toList.isEmpty = false ∧ cmpS ta a = 0) ∧ (1 < k → b.toList.isEmpty = false ∧ cmpS tb b = 0) ∧ (2 < k → c.toList.isEmpty = false ∧ cmpS tc c = 0) ∧ Grew w1 wr) (fun i _ => 3 - (intOf i).toNat)
  case atStart => exact ⟨0, by omega, rfl, fun h => absurd h (by omega), fun h => absurd h (by omega), fun h => absurd h (by omega), gw_refl⟩
  case round =>
    obtain ⟨k, hk, rfl, ha, hb, hc, hw⟩ := hrel
    have HA := hid ha; clear ha
    have HB := hid hb; clear hb
    have HC := hid hc; clear hc
    rcases (show k = 0 ∨ k = 1 ∨ k = 2 ∨ k = 3 by omega) with rfl | rfl | rfl | rfl <;> clear hk
    · cases ea : a.toList.isEmpty
      · have Ea := hid ea
        obtain ⟨z, hz⟩ : ∃ z, cmpS ta a = z := ⟨_, rfl⟩
        have Za := hid hz; clear hz
        by_cases h0 : z = 0
        · subst h0
          go_wp2_with fail
          refine (strCmpV _ _ 0 _ Za.out).mono ?_
          rintro r w' ⟨rfl, rfl⟩
          go_wp2
          go_roundw
          case rel => exact ⟨0+1, by omega, by go_num, fun _ => by first | exact ⟨Ea.out, Za.out⟩ | exact ⟨trivial, Za.out⟩ | exact Za.out, fun h => absurd h (by omega), fun h => absurd h (by omega), gw_alloc hw _⟩
          case measure => simp [intOf]
        · have HK : Hid (ford ⟨a, b, c, d, e, f, false⟩ ⟨ta, tb, tc, td, te, tf⟩ = z) := hid (ordL_n Ea.out Za.out h0)
          go_wp2_with fail
          refine (strCmpV _ _ z _ Za.out).mono ?_
          rintro r w' ⟨rfl, rfl⟩
          go_wp2
          go_ret
          exact ⟨ret_int HK.out.symm, gw_trans hB1 (gw_alloc hw _)⟩
      · have HK : Hid (ford ⟨a, b, c, d, e, f, false⟩ ⟨ta, tb, tc, td, te, tf⟩ = 0) := hid (ordL_e ea)
        go_wp2
        go_ret
        exact ⟨ret_int HK.out.symm, gw_trans hB1 (gw_alloc hw _)⟩
    · cases eb : b.toList.isEmpty
      · have Eb := hid eb
        obtain ⟨z, hz⟩ : ∃ z, cmpS tb b = z := ⟨_, rfl⟩
        have Zb := hid hz; clear hz
        by_cases h0 : z = 0
        · subst h0
          go_wp2_with fail
          refine (strCmpV _ _ 0 _ Zb.out).mono ?_
          rintro r w' ⟨rfl, rfl⟩
          go_wp2
          go_roundw
          case rel => exact ⟨1+1, by omega, by go_num, fun _ => HA.out (by omega), fun _ => by first | exact ⟨Eb.out, Zb.out⟩ | exact ⟨trivial, Zb.out⟩ | exact Zb.out, fun h => absurd h (by omega), gw_alloc hw _⟩
          case measure => simp [intOf]
        · have HK : Hid (ford ⟨a, b, c, d, e, f, false⟩ ⟨ta, tb, tc, td, te, tf⟩ = z) := hid ((ordL_z (HA.out (by omega)).1 (HA.out (by omega)).2).trans (ordL_n Eb.out Zb.out h0))
          go_wp2_with fail
          refine (strCmpV _ _ z _ Zb.out).mono ?_
          rintro r w' ⟨rfl, rfl⟩
          go_wp2
          go_ret
          exact ⟨ret_int HK.out.symm, gw_trans hB1 (gw_alloc hw _)⟩
      · have HK : Hid (ford ⟨a, b, c, d, e, f, false⟩ ⟨ta, tb, tc, td, te, tf⟩ = 0) := hid ((ordL_z (HA.out (by omega)).1 (HA.out (by omega)).2).trans (ordL_e eb))
        go_wp2
        go_ret
        exact ⟨ret_int HK.out.symm, gw_trans hB1 (gw_alloc hw _)⟩
    · cases ec : c.toList.isEmpty
      · have Ec := hid ec
        obtain ⟨z, hz⟩ : ∃ z, cmpS tc c = z := ⟨_, rfl⟩
        have Zc := hid hz; clear hz
        by_cases h0 : z = 0
        · subst h0
          go_wp2_with fail
          refine (strCmpV _ _ 0 _ Zc.out).mono ?_
          rintro r w' ⟨rfl, rfl⟩
          go_wp2
          go_roundw
          case rel => exact ⟨2+1, by omega, by go_num, fun _ => HA.out (by omega), fun _ => HB.out (by omega), fun _ => by first | exact ⟨Ec.out, Zc.out⟩ | exact ⟨trivial, Zc.out⟩ | exact Zc.out, gw_alloc hw _⟩
          case measure => simp [intOf]
        · have HK : Hid (ford ⟨a, b, c, d, e, f, false⟩ ⟨ta, tb, tc, td, te, tf⟩ = z) := hid ((ordL_z (HA.out (by omega)).1 (HA.out (by omega)).2).trans ((ordL_z (HB.out (by omega)).1 (HB.out (by omega)).2).trans (ordL_n Ec.out Zc.out h0)))
          go_wp2_with fail
          refine (strCmpV _ _ z _ Zc.out).mono ?_
          rintro r w' ⟨rfl, rfl⟩
          go_wp2
          go_ret
          exact ⟨ret_int HK.out.symm, gw_trans hB1 (gw_alloc hw _)⟩
      · have HK : Hid (ford ⟨a, b, c, d, e, f, false⟩ ⟨ta, tb, tc, td, te, tf⟩ = 0) := hid ((ordL_z (HA.out (by omega)).1 (HA.out (by omega)).2).trans ((ordL_z (HB.out (by omega)).1 (HB.out (by omega)).2).trans (ordL_e ec)))
        go_wp2
        go_ret
        exact ⟨ret_int HK.out.symm, gw_trans hB1 (gw_alloc hw _)⟩
    · obtain ⟨p0, p1, p2, p3, p4, p5, p6, p7⟩ := HFB.out.keep hw.toBelow
      obtain ⟨q0, q1, q2, q3, q4, q5, q6⟩ := HTC.out.keep hw.toBelow
      have HK : Hid (ford ⟨a, b, c, d, e, f, false⟩ ⟨ta, tb, tc, td, te, tf⟩ = 0) := hid ((ordL_z (HA.out (by omega)).1 (HA.out (by omega)).2).trans ((ordL_z (HB.out (by omega)).1 (HB.out (by omega)).2).trans ((ordL_z (HC.out (by omega)).1 (HC.out (by omega)).2).trans (rfl))))
      go_wp2
      go_ret
      exact ⟨ret_int HK.out.symm, gw_trans hB1 hw⟩

set_option maxRecDepth 20000 in
set_option maxHeartbeats 4000000 in
theorem order_true (a b c d e f ta tb tc td te tf : ByteArray) (w : World) :
    Calls Try.prog 45 #[.agg #[.string a, .string b, .string c, .string d, .string e, .string f, .bool true], .agg #[.string ta, .string tb, .string tc, .string td, .string te, .string tf]] w fun r w' => r = .returned (.int .i64 (ford ⟨a, b, c, d, e, f, true⟩ ⟨ta, tb, tc, td, te, tf⟩)) ∧ Grew w w' := by
  have i0 := pr0 a ta b tb c tc
  have i1 := pr1 a ta b tb c tc
  have i2 := pr2 a ta b tb c tc
  go_enter Try.func45, Try.ntmps45
  go_wp2_with fail
  refine (goalPairs_any a b c d e f true ta tb tc _).mono ?_
  rintro r w1 ⟨rfl, hw1⟩
  have HFB : Hid (FB w1 w.heap.size ⟨a, b, c, d, e, f, true⟩) := hid (FB.keep (by simp only [FB]; exact ⟨by go_simp, by go_simp, by go_simp, by go_simp, by go_simp, by go_simp, by go_simp, by simp <;> omega⟩) hw1.toBelow)
  have HTC : Hid (Tc w1 (w.heap.size + 1) ⟨ta, tb, tc, td, te, tf⟩) := hid (Tc.keep (by simp only [Tc]; exact ⟨by go_simp, by go_simp, by go_simp, by go_simp, by go_simp, by go_simp, by simp⟩) hw1.toBelow)
  have hB1 : Grew w w1 := gw_trans (gw_alloc (gw_alloc gw_refl _) _) hw1
  clear hw1
  go_wp2
  go_loopw [12] (fun i wr => ∃ k : Nat, k ≤ 3 ∧ i = .int .i64 k ∧ (0 < k → a.toList.isEmpty = false ∧ cmpS ta a = 0) ∧ (1 < k → b.toList.isEmpty = false ∧ cmpS tb b = 0) ∧ (2 < k → c.toList.isEmpty = false ∧ cmpS tc c = 0) ∧ Grew w1 wr) (fun i _ => 3 - (intOf i).toNat)
  case atStart => exact ⟨0, by omega, rfl, fun h => absurd h (by omega), fun h => absurd h (by omega), fun h => absurd h (by omega), gw_refl⟩
  case round =>
    obtain ⟨k, hk, rfl, ha, hb, hc, hw⟩ := hrel
    have HA := hid ha; clear ha
    have HB := hid hb; clear hb
    have HC := hid hc; clear hc
    rcases (show k = 0 ∨ k = 1 ∨ k = 2 ∨ k = 3 by omega) with rfl | rfl | rfl | rfl <;> clear hk
    · cases ea : a.toList.isEmpty
      · have Ea := hid ea
        obtain ⟨z, hz⟩ : ∃ z, cmpS ta a = z := ⟨_, rfl⟩
        have Za := hid hz; clear hz
        by_cases h0 : z = 0
        · subst h0
          go_wp2_with fail
          refine (strCmpV _ _ 0 _ Za.out).mono ?_
          rintro r w' ⟨rfl, rfl⟩
          go_wp2
          go_roundw
          case rel => exact ⟨0+1, by omega, by go_num, fun _ => by first | exact ⟨Ea.out, Za.out⟩ | exact ⟨trivial, Za.out⟩ | exact Za.out, fun h => absurd h (by omega), fun h => absurd h (by omega), gw_alloc hw _⟩
          case measure => simp [intOf]
        · have HK : Hid (ford ⟨a, b, c, d, e, f, true⟩ ⟨ta, tb, tc, td, te, tf⟩ = z) := hid (ordL_n Ea.out Za.out h0)
          go_wp2_with fail
          refine (strCmpV _ _ z _ Za.out).mono ?_
          rintro r w' ⟨rfl, rfl⟩
          go_wp2
          go_ret
          exact ⟨ret_int HK.out.symm, gw_trans hB1 (gw_alloc hw _)⟩
      · have HK : Hid (ford ⟨a, b, c, d, e, f, true⟩ ⟨ta, tb, tc, td, te, tf⟩ = 0) := hid (ordL_e ea)
        go_wp2
        go_ret
        exact ⟨ret_int HK.out.symm, gw_trans hB1 (gw_alloc hw _)⟩
    · cases eb : b.toList.isEmpty
      · have Eb := hid eb
        obtain ⟨z, hz⟩ : ∃ z, cmpS tb b = z := ⟨_, rfl⟩
        have Zb := hid hz; clear hz
        by_cases h0 : z = 0
        · subst h0
          go_wp2_with fail
          refine (strCmpV _ _ 0 _ Zb.out).mono ?_
          rintro r w' ⟨rfl, rfl⟩
          go_wp2
          go_roundw
          case rel => exact ⟨1+1, by omega, by go_num, fun _ => HA.out (by omega), fun _ => by first | exact ⟨Eb.out, Zb.out⟩ | exact ⟨trivial, Zb.out⟩ | exact Zb.out, fun h => absurd h (by omega), gw_alloc hw _⟩
          case measure => simp [intOf]
        · have HK : Hid (ford ⟨a, b, c, d, e, f, true⟩ ⟨ta, tb, tc, td, te, tf⟩ = z) := hid ((ordL_z (HA.out (by omega)).1 (HA.out (by omega)).2).trans (ordL_n Eb.out Zb.out h0))
          go_wp2_with fail
          refine (strCmpV _ _ z _ Zb.out).mono ?_
          rintro r w' ⟨rfl, rfl⟩
          go_wp2
          go_ret
          exact ⟨ret_int HK.out.symm, gw_trans hB1 (gw_alloc hw _)⟩
      · have HK : Hid (ford ⟨a, b, c, d, e, f, true⟩ ⟨ta, tb, tc, td, te, tf⟩ = 0) := hid ((ordL_z (HA.out (by omega)).1 (HA.out (by omega)).2).trans (ordL_e eb))
        go_wp2
        go_ret
        exact ⟨ret_int HK.out.symm, gw_trans hB1 (gw_alloc hw _)⟩
    · cases ec : c.toList.isEmpty
      · have Ec := hid ec
        obtain ⟨z, hz⟩ : ∃ z, cmpS tc c = z := ⟨_, rfl⟩
        have Zc := hid hz; clear hz
        by_cases h0 : z = 0
        · subst h0
          go_wp2_with fail
          refine (strCmpV _ _ 0 _ Zc.out).mono ?_
          rintro r w' ⟨rfl, rfl⟩
          go_wp2
          go_roundw
          case rel => exact ⟨2+1, by omega, by go_num, fun _ => HA.out (by omega), fun _ => HB.out (by omega), fun _ => by first | exact ⟨Ec.out, Zc.out⟩ | exact ⟨trivial, Zc.out⟩ | exact Zc.out, gw_alloc hw _⟩
          case measure => simp [intOf]
        · have HK : Hid (ford ⟨a, b, c, d, e, f, true⟩ ⟨ta, tb, tc, td, te, tf⟩ = z) := hid ((ordL_z (HA.out (by omega)).1 (HA.out (by omega)).2).trans ((ordL_z (HB.out (by omega)).1 (HB.out (by omega)).2).trans (ordL_n Ec.out Zc.out h0)))
          go_wp2_with fail
          refine (strCmpV _ _ z _ Zc.out).mono ?_
          rintro r w' ⟨rfl, rfl⟩
          go_wp2
          go_ret
          exact ⟨ret_int HK.out.symm, gw_trans hB1 (gw_alloc hw _)⟩
      · have HK : Hid (ford ⟨a, b, c, d, e, f, true⟩ ⟨ta, tb, tc, td, te, tf⟩ = 0) := hid ((ordL_z (HA.out (by omega)).1 (HA.out (by omega)).2).trans ((ordL_z (HB.out (by omega)).1 (HB.out (by omega)).2).trans (ordL_e ec)))
        go_wp2
        go_ret
        exact ⟨ret_int HK.out.symm, gw_trans hB1 (gw_alloc hw _)⟩
    · obtain ⟨p0, p1, p2, p3, p4, p5, p6, p7⟩ := HFB.out.keep hw.toBelow
      obtain ⟨q0, q1, q2, q3, q4, q5, q6⟩ := HTC.out.keep hw.toBelow
      have HK : Hid (ford ⟨a, b, c, d, e, f, true⟩ ⟨ta, tb, tc, td, te, tf⟩ = cmpG td te tf d e f) := hid ((ordL_z (HA.out (by omega)).1 (HA.out (by omega)).2).trans ((ordL_z (HB.out (by omega)).1 (HB.out (by omega)).2).trans ((ordL_z (HC.out (by omega)).1 (HC.out (by omega)).2).trans (rfl))))
      go_wp2_with fail
      refine (compareSubject_gw td te tf d e f _).mono ?_
      rintro r w' ⟨rfl, hw2⟩
      go_wp2
      go_ret
      exact ⟨ret_int HK.out.symm, gw_trans hB1 (gw_trans hw hw2)⟩
theorem ford_any (f : Fil) (t : Tup) (w : World) :
    Calls Try.prog 45 #[valF f, val t] w fun r w' => r = .returned (.int .i64 (ford f t)) ∧ Grew w w' := by
  obtain ⟨a, b, c, d, e, f, x⟩ := f
  obtain ⟨ta, tb, tc, td, te, tf⟩ := t
  cases x
  · exact order_false a b c d e f ta tb tc td te tf w
  · exact order_true a b c d e f ta tb tc td te tf w
theorem ford_q (f : Fil) (t : Tup) (v : Int) (hv : ford f t = v) (w : World) (n : Nat) (os : Array Obj) :
    Calls Try.prog 45 #[valF f, val t] (grow (w.drewN n) os) fun e w'' => e = .returned (.int .i64 v) ∧ ∃ p : GrownBy, w'' = grow (w.drewN p.n) p.os :=
  Calls.grown_of ((ford_any f t _).mono fun _ _ h => ⟨by rw [h.1, hv], h.2.out⟩)

/-- one cell, in every world that grew -/
def One1 (w : World) (b : Nat) (v : Value) : Prop := ∀ n os, (grow (w.drewN n) os).cell? ⟨b, 0, none⟩ = some v
theorem one1_of {w : World} {b : Nat} {v : Value} (h : w.cell? ⟨b, 0, none⟩ = some v) (hb : b < w.heap.size) : One1 w b v := fun n os => ((Grew.of_grow w n os).toBelow.cell (p := ⟨b, 0, none⟩) hb).trans h
/-- the closure's three boxes -/
def Boxes (w : World) (b : Nat) (f : Fil) (A : Option Addr) (n c : Nat) (k : Int) : Prop :=
  w.cell? ⟨b, 0, none⟩ = some (.slice A n c) ∧ w.cell? ⟨b + 1, 0, none⟩ = some (.func (.func 45) #[valF f] #[]) ∧ w.cell? ⟨b + 1 + 1, 0, none⟩ = some (.int .i64 k) ∧ b + 1 + 1 < w.heap.size
theorem Boxes.keep {w w' : World} {b : Nat} {f : Fil} {A : Option Addr} {n c : Nat} {k : Int} (h : Boxes w b f A n c k) (hb : Below w.heap.size w w') : Boxes w' b f A n c k := by
  obtain ⟨h0, h1, h2, h3⟩ := h
  exact ⟨(own_cells hb _ (by omega) _).1.trans h0, (own_cells hb _ (by omega) _).1.trans h1, (own_cells hb _ h3 _).1.trans h2, Nat.lt_of_lt_of_le h3 hb.size⟩

set_option maxRecDepth 20000 in
set_option maxHeartbeats 4000000 in
theorem closure_any (f : Fil) (A : Option Addr) (l : List Tup) (c b i : Nat) (k v : Int) (w : World) (hB : Boxes w b f A l.length c k) (hR : Row w A l) (hi : i < l.length) (hv : ford f l[i] = v) :
    Calls Try.prog 80 #[.int .i64 i, .pointer (some ⟨b + 1, 0, none⟩), .pointer (some ⟨b, 0, none⟩), .pointer (some ⟨b + 1 + 1, 0, none⟩)] w fun r w' => r = .returned (.bool (decide (k ≤ v))) ∧ Grew w w' := by
  have hmx := mixed
  obtain ⟨b0, b1, b2, b3⟩ := hB
  obtain ⟨bl, o, rfl, hL⟩ := hR.at_ hi
  obtain ⟨q0, q1, q2, q3, q4, q5⟩ := hL.six hi
  have c0 := one1_of b0 (by omega)
  have c1 := one1_of b1 (by omega)
  have c2 := one1_of b2 b3
  simp only [One1] at c0 c1 c2
  clear hR hL b0 b1 b2
  have HV := hid hv; clear hv
  have e1 : (0 : Int) ≤ (i : Int) := by omega
  have e2 : (i : Int) < (l.length : Int) := by omega
  go_enter Try.func80, Try.ntmps80
  go_wp2_with fail
  go_quiet_grown (first | (go_at_call 45; exact ford_q f l[i] v HV.out _ _ _))
  go_wp2
  go_ret
  exact ⟨rfl, gw_grow (gw_drewN gw_refl _) _⟩

/-- how many tuples of a list lie ahead -/
def ahead (f : Fil) (k : Int) (l : List Tup) : Nat := l.countP fun t => decide (ford f t < k)
theorem ahead_le (f : Fil) (k : Int) (l : List Tup) : ahead f k l ≤ l.length := List.countP_le_length
theorem ahead_lt {l : List Tup} (hl : Asc cmpT l) (f : Fil) (k : Int) (i : Nat) (h : i < l.length) : ford f l[i] < k ↔ i < ahead f k l := by
  have := cnt_lt (fun t => decide (ford f t < k)) (l := l) (hl.imp fun {x y} hxy e => by simp at e ⊢; have := ford_mono f (Int.le_of_lt hxy); omega) i h
  simpa [ahead] using this
set_option maxRecDepth 20000 in
set_option maxHeartbeats 4000000 in
theorem sortSearch (f : Fil) (A : Option Addr) (l : List Tup) (c b : Nat) (k : Int) (w : World) (hB : Boxes w b f A l.length c k) (hR : Row w A l) (hA : Asc cmpT l) (hn : l.length ≤ 1000000000) :
    Calls Try.prog 79 #[.int .i64 l.length, .func (.func 80) #[] #[.pointer (some ⟨b + 1, 0, none⟩), .pointer (some ⟨b, 0, none⟩), .pointer (some ⟨b + 1 + 1, 0, none⟩)]] w
      fun e w' => e = .returned (.int .i64 (ahead f k l)) ∧ Grew w w' := by
  have hmx := mixed
  have HA := hid hA; clear hA
  have HB := hid hB; clear hB
  have HR := hid hR; clear hR
  have HL := hid (ahead_le f k l)
  go_enter Try.func79, Try.ntmps79
  go_wp2
  go_loopw [5, 6] (fun vi vj wr => ∃ i j : Nat, i ≤ j ∧ j ≤ l.length ∧ i ≤ ahead f k l ∧ ahead f k l ≤ j ∧ vi = .int .i64 i ∧ vj = .int .i64 j ∧ Grew w wr) (fun vi vj _ => (intOf vj - intOf vi).toNat)
  case atStart => exact ⟨0, l.length, Nat.zero_le _, Nat.le_refl _, Nat.zero_le _, HL.out, rfl, rfl, gw_refl⟩
  case round =>
    obtain ⟨i, j, hij, hjl, hif, hfj, rfl, rfl, hw⟩ := hrel
    have hIF := hid hif; clear hif
    have hFJ := hid hfj; clear hfj
    by_cases hlt : i < j
    · obtain ⟨m, hm⟩ : ∃ m, (i + j) / 2 = m := ⟨_, rfl⟩
      have hmi : i ≤ m := by omega
      have hmj : m < j := by omega
      have hml : m < l.length := by omega
      obtain ⟨v, hv⟩ : ∃ v, ford f l[m] = v := ⟨_, rfl⟩
      have HV := hid hv; clear hv
      have HM := hid (ahead_lt HA.out f k m hml)
      have hm2 : ((i : Int) + (j : Int)) / 2 = (m : Int) := by omega
      clear hm
      have HC := hid (closure_any f A l c b m k v wr (HB.out.keep hw.toBelow) (HR.out.gw hw) hml HV.out)
      by_cases hs : k ≤ v
      · rw [decide_eq_true hs] at HC
        go_wp2_with fail
        refine HC.out.mono ?_
        rintro e w' ⟨rfl, hw2⟩
        go_wp2
        go_roundw
        case rel => exact ⟨i, m, hmi, by omega, hIF.out, Nat.le_of_not_lt fun h => by have := HM.out.2 h; rw [HV.out] at this; omega, rfl, rfl, gw_trans hw hw2⟩
        case measure => simp [intOf]; omega
      · rw [decide_eq_false hs] at HC
        go_wp2_with fail
        refine HC.out.mono ?_
        rintro e w' ⟨rfl, hw2⟩
        go_wp2
        go_roundw
        case rel => exact ⟨m + 1, j, by omega, hjl, HM.out.1 (by rw [HV.out]; omega), hFJ.out, by go_num, rfl, gw_trans hw hw2⟩
        case measure => simp [intOf]; omega
    · have hfi : Hid (ahead f k l = i) := by show _ = _; have := hIF.out; have := hFJ.out; omega
      go_wp2
      go_ret
      exact ⟨ret_int (by rw [hfi.out]), hw⟩
theorem search_any (f : Fil) (A : Option Addr) (l : List Tup) (c : Nat) (k : Int) (w : World) (hR : Row w A l) (hA : Asc cmpT l) (hn : l.length ≤ 1000000000) :
    Calls Try.prog 46 #[.slice A l.length c, .func (.func 45) #[valF f] #[], .int .i64 k] w
      fun e w' => e = .returned (.int .i64 (ahead f k l)) ∧ Grew w w' := by
  have HR := hid hR; clear hR
  have HA := hid hA; clear hA
  go_enter Try.func46, Try.ntmps46
  go_wp2_with fail
  refine (sortSearch f A l c w.heap.size k _ (by simp only [Boxes]; exact ⟨by go_simp, by go_simp, by go_simp, by simp <;> omega⟩) (HR.out.gw (gw_alloc (gw_alloc (gw_alloc gw_refl _) _) _)) HA.out hn).mono ?_
  rintro e w' ⟨rfl, hw⟩
  go_wp2
  go_ret
  exact ⟨rfl, gw_trans (gw_alloc (gw_alloc (gw_alloc gw_refl _) _) _) hw⟩
end Go.Proofs.Ytgfgfggoofjeeaa
