/-
  THE CONTRACTS of filters.Prefix, pairs, goalPairs, Takes, and of the reference's Prefix.
-/
import Derived.Test.YtgfgfggoofjeeaaFRtk
namespace Go.Proofs.Ytgfgfggoofjeeaa
open Go.RowKit Go.Sort

theorem fpre0 {f : Fil} (h : f.a.toList.isEmpty = true) : fpre f = 0 := by unfold fpre; rw [if_pos h]
theorem fpre1 {f : Fil} (h : f.a.toList.isEmpty = false) (k : f.b.toList.isEmpty = true) : fpre f = 1 := by unfold fpre; rw [if_neg (by rw [h]; decide), if_pos k]
theorem fpre2 {f : Fil} (h : f.a.toList.isEmpty = false) (k : f.b.toList.isEmpty = false) (l : f.c.toList.isEmpty = true) : fpre f = 2 := by unfold fpre; rw [if_neg (by rw [h]; decide), if_neg (by rw [k]; decide), if_pos l]
theorem fpre3 {f : Fil} (h : f.a.toList.isEmpty = false) (k : f.b.toList.isEmpty = false) (l : f.c.toList.isEmpty = false) (x : f.x = false) : fpre f = 3 := by unfold fpre; rw [if_neg (by rw [h]; decide), if_neg (by rw [k]; decide), if_neg (by rw [l]; decide), if_neg (by rw [x]; decide)]
theorem fpre4 {f : Fil} (h : f.a.toList.isEmpty = false) (k : f.b.toList.isEmpty = false) (l : f.c.toList.isEmpty = false) (x : f.x = true) : fpre f = 4 := by unfold fpre; rw [if_neg (by rw [h]; decide), if_neg (by rw [k]; decide), if_neg (by rw [l]; decide), if_pos x]
set_option maxRecDepth 20000 in
set_option maxHeartbeats 2000000 in
theorem rprefix (f : Fil) (w : World) :
    Calls Try.prog 16 #[valF f] w fun r w' => r = .returned (.int .i64 (fpre f)) ∧ Grew w w' := by
  obtain ⟨a, b, c, d, e, f, x⟩ := f
  simp only [valF]
  cases ea : a.toList.isEmpty
  · cases eb : b.toList.isEmpty
    · cases ec : c.toList.isEmpty
      · cases x
        · have HK := hid (fpre3 (f := ⟨a, b, c, d, e, f, false⟩) ea eb ec rfl)
          go_enter Try.func16, Try.ntmps16
          go_wp2
          go_ret
          exact ⟨ret_int HK.out.symm, gw_alloc gw_refl _⟩
        · have HK := hid (fpre4 (f := ⟨a, b, c, d, e, f, true⟩) ea eb ec rfl)
          go_enter Try.func16, Try.ntmps16
          go_wp2
          go_ret
          exact ⟨ret_int HK.out.symm, gw_alloc gw_refl _⟩
      · have HK := hid (fpre2 (f := ⟨a, b, c, d, e, f, x⟩) ea eb ec)
        go_enter Try.func16, Try.ntmps16
        go_wp2
        go_ret
        exact ⟨ret_int HK.out.symm, gw_alloc gw_refl _⟩
    · have HK := hid (fpre1 (f := ⟨a, b, c, d, e, f, x⟩) ea eb)
      go_enter Try.func16, Try.ntmps16
      go_wp2
      go_ret
      exact ⟨ret_int HK.out.symm, gw_alloc gw_refl _⟩
  · have HK := hid (fpre0 (f := ⟨a, b, c, d, e, f, x⟩) ea)
    go_enter Try.func16, Try.ntmps16
    go_wp2
    go_ret
    exact ⟨ret_int HK.out.symm, gw_alloc gw_refl _⟩

set_option maxRecDepth 20000 in
set_option maxHeartbeats 2000000 in
theorem fprefix (f : Fil) (w : World) :
    Calls Try.prog 15 #[valF f] w fun r w' => r = .returned (.int .i64 (fpre f)) ∧ Below w.heap.size w w' := by
  obtain ⟨a, b, c, d, e, f, x⟩ := f
  simp only [valF]
  have i0 := ar0 a b c
  have i1 := ar1 a b c
  have i2 := ar2 a b c
  go_enter Try.func15, Try.ntmps15
  go_wp2
  go_loopw [12] (fun i wr => ∃ k : Nat, k ≤ 3 ∧ i = .int .i64 k ∧ (0 < k → a.toList.isEmpty = false) ∧ (1 < k → b.toList.isEmpty = false) ∧ (2 < k → c.toList.isEmpty = false) ∧ (w.alloc (.cells #[.string a, .string b, .string c, .string d, .string e, .string f, .bool x] 35)) = wr) (fun i _ => 3 - (intOf i).toNat)
  case atStart => exact ⟨0, by omega, rfl, fun h => absurd h (by omega), fun h => absurd h (by omega), fun h => absurd h (by omega), rfl⟩
  case round =>
    obtain ⟨k, hk, rfl, ha, hb, hc, rfl⟩ := hrel
    have HA := hid ha; clear ha
    have HB := hid hb; clear hb
    have HC := hid hc; clear hc
    have hw : Below w.heap.size w (w.alloc (.cells #[.string a, .string b, .string c, .string d, .string e, .string f, .bool x] 35)) := g_alloc g_refl _
    rcases (show k = 0 ∨ k = 1 ∨ k = 2 ∨ k = 3 by omega) with rfl | rfl | rfl | rfl <;> clear hk
    · cases ea : a.toList.isEmpty
      · go_wp2
        go_roundw
        case rel => exact ⟨0+1, by omega, by go_num, fun _ => by first | trivial | exact ea | simp_all, fun h => absurd h (by omega), fun h => absurd h (by omega), by trivial⟩
        case measure => simp [intOf]
      · have HK := hid (fpre0 (f := ⟨a, b, c, d, e, f, x⟩)  ea)
        go_wp2
        go_ret
        exact ⟨ret_int HK.out.symm, hw⟩
    · cases eb : b.toList.isEmpty
      · go_wp2
        go_roundw
        case rel => exact ⟨1+1, by omega, by go_num, fun _ => HA.out (by omega), fun _ => by first | trivial | exact eb | simp_all, fun h => absurd h (by omega), by trivial⟩
        case measure => simp [intOf]
      · have HK := hid (fpre1 (f := ⟨a, b, c, d, e, f, x⟩) (HA.out (by omega)) eb)
        go_wp2
        go_ret
        exact ⟨ret_int HK.out.symm, hw⟩
    · cases ec : c.toList.isEmpty
      · go_wp2
        go_roundw
        case rel => exact ⟨2+1, by omega, by go_num, fun _ => HA.out (by omega), fun _ => HB.out (by omega), fun _ => by first | trivial | exact ec | simp_all, by trivial⟩
        case measure => simp [intOf]
      · have HK := hid (fpre2 (f := ⟨a, b, c, d, e, f, x⟩) (HA.out (by omega)) (HB.out (by omega)) ec)
        go_wp2
        go_ret
        exact ⟨ret_int HK.out.symm, hw⟩
    · cases x
      · have HK := hid (fpre3 (f := ⟨a, b, c, d, e, f, false⟩) (HA.out (by omega)) (HB.out (by omega)) (HC.out (by omega)) rfl)
        go_wp2
        go_ret
        exact ⟨ret_int HK.out.symm, hw⟩
      · have HK := hid (fpre4 (f := ⟨a, b, c, d, e, f, true⟩) (HA.out (by omega)) (HB.out (by omega)) (HC.out (by omega)) rfl)
        go_wp2
        go_ret
        exact ⟨ret_int HK.out.symm, hw⟩

theorem pr0 (a u b v c z : ByteArray) (w : World) : (Instr.index 79 (.agg #[.string a, .string u, .string b, .string v, .string c, .string z]) (.int .i64 0)).run Try.prog w = .ok (.agg #[.string a, .string u]) w := by kernel_rfl
theorem pr1 (a u b v c z : ByteArray) (w : World) : (Instr.index 79 (.agg #[.string a, .string u, .string b, .string v, .string c, .string z]) (.int .i64 1)).run Try.prog w = .ok (.agg #[.string b, .string v]) w := by kernel_rfl
theorem pr2 (a u b v c z : ByteArray) (w : World) : (Instr.index 79 (.agg #[.string a, .string u, .string b, .string v, .string c, .string z]) (.int .i64 2)).run Try.prog w = .ok (.agg #[.string c, .string z]) w := by kernel_rfl
set_option maxRecDepth 20000 in
set_option maxHeartbeats 2000000 in
theorem pairs_any (a b c d e f : ByteArray) (x : Bool) (u v z : ByteArray) (w : World) :
    Calls Try.prog 33 #[.agg #[.string a, .string b, .string c, .string d, .string e, .string f, .bool x], .string u, .string v, .string z] w fun r w' => r = .returned (.agg #[.string a, .string u, .string b, .string v, .string c, .string z]) ∧ Grew w w' := by
  go_enter Try.func33, Try.ntmps33
  go_wp2
  refine bodyPost_ret (v := .agg #[.string a, .string u, .string b, .string v, .string c, .string z]) (by simp [results, Try.results33, go_sem, *]) rfl ⟨rfl, ?_⟩
  repeat (first | (with_reducible refine gw_alloc ?_ _) | (with_reducible refine gw_set ?_ (by simp) _))
  exact gw_refl
set_option maxRecDepth 20000 in
set_option maxHeartbeats 2000000 in
theorem goalPairs_any (a b c d e f : ByteArray) (x : Bool) (u v z : ByteArray) (w : World) :
    Calls Try.prog 48 #[.agg #[.string a, .string b, .string c, .string d, .string e, .string f, .bool x], .agg #[.string u, .string v, .string z]] w fun r w' => r = .returned (.agg #[.string a, .string u, .string b, .string v, .string c, .string z]) ∧ Grew w w' := by
  go_enter Try.func48, Try.ntmps48
  go_wp2_with fail
  refine (pairs_any a b c d e f x u v z _).mono ?_
  rintro r w1 ⟨rfl, hw1⟩
  have hz : w.heap.size + 1 + 1 < w1.heap.size := by have := hw1.size; simp at this; omega
  have own := own_cells hw1.toBelow (w.heap.size + 1 + 1) (by simp)
  have hB : Grew w w1 := gw_trans (gw_alloc (gw_alloc (gw_alloc gw_refl _) _) _) hw1
  have c0 : w1.cell? ⟨w.heap.size + 1 + 1, 0, none⟩ = some (.string ⟨#[]⟩) := (own 0).1.trans (by go_simp)
  have f0 : w1.frozen? ⟨w.heap.size + 1 + 1, 0, none⟩ = false := (own 0).2.trans (by go_simp)
  have c1 : w1.cell? ⟨w.heap.size + 1 + 1, 1, none⟩ = some (.string ⟨#[]⟩) := (own 1).1.trans (by go_simp)
  have f1 : w1.frozen? ⟨w.heap.size + 1 + 1, 1, none⟩ = false := (own 1).2.trans (by go_simp)
  have c2 : w1.cell? ⟨w.heap.size + 1 + 1, 2, none⟩ = some (.string ⟨#[]⟩) := (own 2).1.trans (by go_simp)
  have f2 : w1.frozen? ⟨w.heap.size + 1 + 1, 2, none⟩ = false := (own 2).2.trans (by go_simp)
  have c3 : w1.cell? ⟨w.heap.size + 1 + 1, 3, none⟩ = some (.string ⟨#[]⟩) := (own 3).1.trans (by go_simp)
  have f3 : w1.frozen? ⟨w.heap.size + 1 + 1, 3, none⟩ = false := (own 3).2.trans (by go_simp)
  have c4 : w1.cell? ⟨w.heap.size + 1 + 1, 4, none⟩ = some (.string ⟨#[]⟩) := (own 4).1.trans (by go_simp)
  have f4 : w1.frozen? ⟨w.heap.size + 1 + 1, 4, none⟩ = false := (own 4).2.trans (by go_simp)
  have c5 : w1.cell? ⟨w.heap.size + 1 + 1, 5, none⟩ = some (.string ⟨#[]⟩) := (own 5).1.trans (by go_simp)
  have f5 : w1.frozen? ⟨w.heap.size + 1 + 1, 5, none⟩ = false := (own 5).2.trans (by go_simp)
  clear own hw1
  go_wp2
  refine bodyPost_ret (v := .agg #[.string a, .string u, .string b, .string v, .string c, .string z]) (by simp [results, Try.results48, go_sem, *]) rfl ⟨rfl, ?_⟩
  repeat (first | (with_reducible refine gw_alloc ?_ _) | (with_reducible refine gw_set ?_ (by simp; try omega) _))
  exact hB

/-- a filter lies in a block of its own -/
def FB (w : World) (b : Nat) (f : Fil) : Prop :=
  w.cell? ⟨b, 0, none⟩ = some (.string f.a) ∧ w.cell? ⟨b, 1, none⟩ = some (.string f.b) ∧ w.cell? ⟨b, 2, none⟩ = some (.string f.c) ∧ w.cell? ⟨b, 3, none⟩ = some (.string f.d) ∧ w.cell? ⟨b, 4, none⟩ = some (.string f.e) ∧ w.cell? ⟨b, 5, none⟩ = some (.string f.f) ∧ w.cell? ⟨b, 6, none⟩ = some (.bool f.x) ∧ b < w.heap.size
theorem FB.keep {w w' : World} {b : Nat} {f : Fil} (h : FB w b f) (hb : Below w.heap.size w w') : FB w' b f := by
  obtain ⟨h0, h1, h2, h3, h4, h5, h6, h7⟩ := h
  exact ⟨(own_cells hb _ h7 _).1.trans h0, (own_cells hb _ h7 _).1.trans h1, (own_cells hb _ h7 _).1.trans h2, (own_cells hb _ h7 _).1.trans h3, (own_cells hb _ h7 _).1.trans h4, (own_cells hb _ h7 _).1.trans h5, (own_cells hb _ h7 _).1.trans h6, Nat.lt_of_lt_of_le h7 hb.size⟩

set_option maxRecDepth 20000 in
set_option maxHeartbeats 4000000 in
theorem ftakes_false (a b c d e f ta tb tc td te tf : ByteArray) (w : World) :
    Calls Try.prog 17 #[.agg #[.string a, .string b, .string c, .string d, .string e, .string f, .bool false], .agg #[.string ta, .string tb, .string tc, .string td, .string te, .string tf]] w fun r w' => r = .returned (.bool (takes ⟨a, b, c, d, e, f, false⟩ ⟨ta, tb, tc, td, te, tf⟩)) ∧ Grew w w' := by
  have i0 := pr0 a ta b tb c tc
  have i1 := pr1 a ta b tb c tc
  have i2 := pr2 a ta b tb c tc
  go_enter Try.func17, Try.ntmps17
  go_wp2_with fail
  refine (goalPairs_any a b c d e f false ta tb tc _).mono ?_
  rintro r w1 ⟨rfl, hw1⟩
  have HFB : Hid (FB w1 w.heap.size ⟨a, b, c, d, e, f, false⟩) := hid (FB.keep (by simp only [FB]; exact ⟨by go_simp, by go_simp, by go_simp, by go_simp, by go_simp, by go_simp, by go_simp, by simp <;> omega⟩) hw1.toBelow)
  have HTC : Hid (Tc w1 (w.heap.size + 1) ⟨ta, tb, tc, td, te, tf⟩) := hid (Tc.keep (by simp only [Tc]; exact ⟨by go_simp, by go_simp, by go_simp, by go_simp, by go_simp, by go_simp, by simp <;> omega⟩) hw1.toBelow)
  have hB1 : Grew w w1 := gw_trans (gw_alloc (gw_alloc gw_refl _) _) hw1
  clear hw1
  go_wp2
  go_loopw [11] (fun i wr => ∃ k : Nat, k ≤ 3 ∧ i = .int .i64 k ∧ (0 < k → okF a ta = true) ∧ (1 < k → okF b tb = true) ∧ (2 < k → okF c tc = true) ∧ Grew w1 wr) (fun i _ => 3 - (intOf i).toNat)
  case atStart => exact ⟨0, by omega, rfl, fun h => absurd h (by omega), fun h => absurd h (by omega), fun h => absurd h (by omega), gw_refl⟩
  case round =>
    obtain ⟨k, hk, rfl, ha, hb, hc, hw⟩ := hrel
    have HA := hid ha; clear ha
    have HB := hid hb; clear hb
    have HC := hid hc; clear hc
    rcases (show k = 0 ∨ k = 1 ∨ k = 2 ∨ k = 3 by omega) with rfl | rfl | rfl | rfl <;> clear hk
    · rcases okF_cases a ta with ea | ⟨ea, q⟩ | ⟨ea, q, nq⟩
      · go_wp2
        go_roundw
        case rel => exact ⟨0+1, by omega, by go_num, fun _ => okF_e ea, fun h => absurd h (by omega), fun h => absurd h (by omega), gw_alloc hw _⟩
        case measure => simp [intOf]
      · have hq : (a.toList == ta.toList) = true := by rw [toList_beq, decide_eq_true q]
        have HQ := hid q; clear q
        go_wp2
        go_roundw
        case rel => exact ⟨0+1, by omega, by go_num, fun _ => HQ.out ▸ okF_s a, fun h => absurd h (by omega), fun h => absurd h (by omega), gw_alloc hw _⟩
        case measure => simp [intOf]
      · have HK := hid (tk_a (f := ⟨a, b, c, d, e, f, false⟩) (t := ⟨ta, tb, tc, td, te, tf⟩) (okF_n ea nq))
        clear nq
        go_wp2
        go_ret
        exact ⟨ret_bool HK.out.symm, gw_trans hB1 (gw_alloc hw _)⟩
    · rcases okF_cases b tb with eb | ⟨eb, q⟩ | ⟨eb, q, nq⟩
      · go_wp2
        go_roundw
        case rel => exact ⟨1+1, by omega, by go_num, fun _ => HA.out (by omega), fun _ => okF_e eb, fun h => absurd h (by omega), gw_alloc hw _⟩
        case measure => simp [intOf]
      · have hq : (b.toList == tb.toList) = true := by rw [toList_beq, decide_eq_true q]
        have HQ := hid q; clear q
        go_wp2
        go_roundw
        case rel => exact ⟨1+1, by omega, by go_num, fun _ => HA.out (by omega), fun _ => HQ.out ▸ okF_s b, fun h => absurd h (by omega), gw_alloc hw _⟩
        case measure => simp [intOf]
      · have HK := hid (tk_b (f := ⟨a, b, c, d, e, f, false⟩) (t := ⟨ta, tb, tc, td, te, tf⟩) (okF_n eb nq))
        clear nq
        go_wp2
        go_ret
        exact ⟨ret_bool HK.out.symm, gw_trans hB1 (gw_alloc hw _)⟩
    · rcases okF_cases c tc with ec | ⟨ec, q⟩ | ⟨ec, q, nq⟩
      · go_wp2
        go_roundw
        case rel => exact ⟨2+1, by omega, by go_num, fun _ => HA.out (by omega), fun _ => HB.out (by omega), fun _ => okF_e ec, gw_alloc hw _⟩
        case measure => simp [intOf]
      · have hq : (c.toList == tc.toList) = true := by rw [toList_beq, decide_eq_true q]
        have HQ := hid q; clear q
        go_wp2
        go_roundw
        case rel => exact ⟨2+1, by omega, by go_num, fun _ => HA.out (by omega), fun _ => HB.out (by omega), fun _ => HQ.out ▸ okF_s c, gw_alloc hw _⟩
        case measure => simp [intOf]
      · have HK := hid (tk_c (f := ⟨a, b, c, d, e, f, false⟩) (t := ⟨ta, tb, tc, td, te, tf⟩) (okF_n ec nq))
        clear nq
        go_wp2
        go_ret
        exact ⟨ret_bool HK.out.symm, gw_trans hB1 (gw_alloc hw _)⟩
    · obtain ⟨p0, p1, p2, p3, p4, p5, p6, p7⟩ := HFB.out.keep hw.toBelow
      obtain ⟨q0, q1, q2, q3, q4, q5, q6⟩ := HTC.out.keep hw.toBelow
      have HK := hid (tk_all (u := true) (f := ⟨a, b, c, d, e, f, false⟩) (t := ⟨ta, tb, tc, td, te, tf⟩) (HA.out (by omega)) (HB.out (by omega)) (HC.out (by omega)) (rfl))
      go_wp2
      go_ret
      exact ⟨ret_bool HK.out.symm, gw_trans hB1 hw⟩

set_option maxRecDepth 20000 in
set_option maxHeartbeats 4000000 in
theorem ftakes_true (a b c d e f ta tb tc td te tf : ByteArray) (w : World) :
    Calls Try.prog 17 #[.agg #[.string a, .string b, .string c, .string d, .string e, .string f, .bool true], .agg #[.string ta, .string tb, .string tc, .string td, .string te, .string tf]] w fun r w' => r = .returned (.bool (takes ⟨a, b, c, d, e, f, true⟩ ⟨ta, tb, tc, td, te, tf⟩)) ∧ Grew w w' := by
  have i0 := pr0 a ta b tb c tc
  have i1 := pr1 a ta b tb c tc
  have i2 := pr2 a ta b tb c tc
  go_enter Try.func17, Try.ntmps17
  go_wp2_with fail
  refine (goalPairs_any a b c d e f true ta tb tc _).mono ?_
  rintro r w1 ⟨rfl, hw1⟩
  have HFB : Hid (FB w1 w.heap.size ⟨a, b, c, d, e, f, true⟩) := hid (FB.keep (by simp only [FB]; exact ⟨by go_simp, by go_simp, by go_simp, by go_simp, by go_simp, by go_simp, by go_simp, by simp <;> omega⟩) hw1.toBelow)
  have HTC : Hid (Tc w1 (w.heap.size + 1) ⟨ta, tb, tc, td, te, tf⟩) := hid (Tc.keep (by simp only [Tc]; exact ⟨by go_simp, by go_simp, by go_simp, by go_simp, by go_simp, by go_simp, by simp <;> omega⟩) hw1.toBelow)
  have hB1 : Grew w w1 := gw_trans (gw_alloc (gw_alloc gw_refl _) _) hw1
  clear hw1
  go_wp2
  go_loopw [11] (fun i wr => ∃ k : Nat, k ≤ 3 ∧ i = .int .i64 k ∧ (0 < k → okF a ta = true) ∧ (1 < k → okF b tb = true) ∧ (2 < k → okF c tc = true) ∧ Grew w1 wr) (fun i _ => 3 - (intOf i).toNat)
  case atStart => exact ⟨0, by omega, rfl, fun h => absurd h (by omega), fun h => absurd h (by omega), fun h => absurd h (by omega), gw_refl⟩
  case round =>
    obtain ⟨k, hk, rfl, ha, hb, hc, hw⟩ := hrel
    have HA := hid ha; clear ha
    have HB := hid hb; clear hb
    have HC := hid hc; clear hc
    rcases (show k = 0 ∨ k = 1 ∨ k = 2 ∨ k = 3 by omega) with rfl | rfl | rfl | rfl <;> clear hk
    · rcases okF_cases a ta with ea | ⟨ea, q⟩ | ⟨ea, q, nq⟩
      · go_wp2
        go_roundw
        case rel => exact ⟨0+1, by omega, by go_num, fun _ => okF_e ea, fun h => absurd h (by omega), fun h => absurd h (by omega), gw_alloc hw _⟩
        case measure => simp [intOf]
      · have hq : (a.toList == ta.toList) = true := by rw [toList_beq, decide_eq_true q]
        have HQ := hid q; clear q
        go_wp2
        go_roundw
        case rel => exact ⟨0+1, by omega, by go_num, fun _ => HQ.out ▸ okF_s a, fun h => absurd h (by omega), fun h => absurd h (by omega), gw_alloc hw _⟩
        case measure => simp [intOf]
      · have HK := hid (tk_a (f := ⟨a, b, c, d, e, f, true⟩) (t := ⟨ta, tb, tc, td, te, tf⟩) (okF_n ea nq))
        clear nq
        go_wp2
        go_ret
        exact ⟨ret_bool HK.out.symm, gw_trans hB1 (gw_alloc hw _)⟩
    · rcases okF_cases b tb with eb | ⟨eb, q⟩ | ⟨eb, q, nq⟩
      · go_wp2
        go_roundw
        case rel => exact ⟨1+1, by omega, by go_num, fun _ => HA.out (by omega), fun _ => okF_e eb, fun h => absurd h (by omega), gw_alloc hw _⟩
        case measure => simp [intOf]
      · have hq : (b.toList == tb.toList) = true := by rw [toList_beq, decide_eq_true q]
        have HQ := hid q; clear q
        go_wp2
        go_roundw
        case rel => exact ⟨1+1, by omega, by go_num, fun _ => HA.out (by omega), fun _ => HQ.out ▸ okF_s b, fun h => absurd h (by omega), gw_alloc hw _⟩
        case measure => simp [intOf]
      · have HK := hid (tk_b (f := ⟨a, b, c, d, e, f, true⟩) (t := ⟨ta, tb, tc, td, te, tf⟩) (okF_n eb nq))
        clear nq
        go_wp2
        go_ret
        exact ⟨ret_bool HK.out.symm, gw_trans hB1 (gw_alloc hw _)⟩
    · rcases okF_cases c tc with ec | ⟨ec, q⟩ | ⟨ec, q, nq⟩
      · go_wp2
        go_roundw
        case rel => exact ⟨2+1, by omega, by go_num, fun _ => HA.out (by omega), fun _ => HB.out (by omega), fun _ => okF_e ec, gw_alloc hw _⟩
        case measure => simp [intOf]
      · have hq : (c.toList == tc.toList) = true := by rw [toList_beq, decide_eq_true q]
        have HQ := hid q; clear q
        go_wp2
        go_roundw
        case rel => exact ⟨2+1, by omega, by go_num, fun _ => HA.out (by omega), fun _ => HB.out (by omega), fun _ => HQ.out ▸ okF_s c, gw_alloc hw _⟩
        case measure => simp [intOf]
      · have HK := hid (tk_c (f := ⟨a, b, c, d, e, f, true⟩) (t := ⟨ta, tb, tc, td, te, tf⟩) (okF_n ec nq))
        clear nq
        go_wp2
        go_ret
        exact ⟨ret_bool HK.out.symm, gw_trans hB1 (gw_alloc hw _)⟩
    · obtain ⟨p0, p1, p2, p3, p4, p5, p6, p7⟩ := HFB.out.keep hw.toBelow
      obtain ⟨q0, q1, q2, q3, q4, q5, q6⟩ := HTC.out.keep hw.toBelow
      rcases sub_cases d e f td te tf with ⟨z1, z2, z3⟩ | ⟨q, nq⟩ | ⟨z1, q, nq⟩ | ⟨z1, z2, q, nq⟩
      · have HK := hid (tk_all (u := true) (f := ⟨a, b, c, d, e, f, true⟩) (t := ⟨ta, tb, tc, td, te, tf⟩) (HA.out (by omega)) (HB.out (by omega)) (HC.out (by omega)) (by simp [*]))
        have hd : (d.toList == td.toList) = true := by rw [toList_beq, decide_eq_true z1]
        have he : (e.toList == te.toList) = true := by rw [toList_beq, decide_eq_true z2]
        have hf : (f.toList == tf.toList) = true := by rw [toList_beq, decide_eq_true z3]
        clear z1 z2 z3
        go_wp2
        go_ret
        exact ⟨ret_bool HK.out.symm, gw_trans hB1 hw⟩
      · have HK := hid (tk_all (u := false) (f := ⟨a, b, c, d, e, f, true⟩) (t := ⟨ta, tb, tc, td, te, tf⟩) (HA.out (by omega)) (HB.out (by omega)) (HC.out (by omega)) (by simp [*]))
        clear nq
        go_wp2
        go_ret
        exact ⟨ret_bool HK.out.symm, gw_trans hB1 hw⟩
      · have HK := hid (tk_all (u := false) (f := ⟨a, b, c, d, e, f, true⟩) (t := ⟨ta, tb, tc, td, te, tf⟩) (HA.out (by omega)) (HB.out (by omega)) (HC.out (by omega)) (by simp [*]))
        have hd : (d.toList == td.toList) = true := by rw [toList_beq, decide_eq_true z1]
        clear z1 nq
        go_wp2
        go_ret
        exact ⟨ret_bool HK.out.symm, gw_trans hB1 hw⟩
      · have HK := hid (tk_all (u := false) (f := ⟨a, b, c, d, e, f, true⟩) (t := ⟨ta, tb, tc, td, te, tf⟩) (HA.out (by omega)) (HB.out (by omega)) (HC.out (by omega)) (by simp [*]))
        have hd : (d.toList == td.toList) = true := by rw [toList_beq, decide_eq_true z1]
        have he : (e.toList == te.toList) = true := by rw [toList_beq, decide_eq_true z2]
        clear z1 z2 nq
        go_wp2
        go_ret
        exact ⟨ret_bool HK.out.symm, gw_trans hB1 hw⟩
theorem ftakes (f : Fil) (t : Tup) (w : World) :
    Calls Try.prog 17 #[valF f, val t] w fun r w' => r = .returned (.bool (takes f t)) ∧ Grew w w' := by
  obtain ⟨a, b, c, d, e, f, x⟩ := f
  obtain ⟨ta, tb, tc, td, te, tf⟩ := t
  cases x
  · exact ftakes_false a b c d e f ta tb tc td te tf w
  · exact ftakes_true a b c d e f ta tb tc td te tf w

end Go.Proofs.Ytgfgfggoofjeeaa
