/-
  THE CONTRACTS of cmp.Or at strings, at errors and at subjects.
-/
import Derived.Test.YtgfgfggoofjeeaaFTak
import Derived.Test.YtgfgfggoofjeeaaTOf
namespace Go.Proofs.Ytgfgfggoofjeeaa
open Go.RowKit Go.Sort

/-- the first one that is not empty -/
def orS (a b : ByteArray) : ByteArray := if a.toList.isEmpty then b else a
theorem orS_e {a b : ByteArray} (h : a.toList.isEmpty = true) : orS a b = b := by unfold orS; rw [if_pos h]
theorem orS_n {a b : ByteArray} (h : a.toList.isEmpty = false) : orS a b = a := by unfold orS; rw [if_neg (by rw [h]; decide)]
set_option maxRecDepth 20000 in
set_option maxHeartbeats 1000000 in
theorem orS_any (a b : ByteArray) (x : Nat) (w : World) (h0 : w.cell? ⟨x, 0, none⟩ = some (.string a)) (h1 : w.cell? ⟨x, 1, none⟩ = some (.string b)) :
    Calls Try.prog 34 #[.slice (some ⟨x, 0, none⟩) 2 2] w fun r w' => r = .returned (.string (orS a b)) ∧ w = w' := by
  go_enter Try.func34, Try.ntmps34
  go_wp2
  go_loop [8] (fun i => ∃ k : Nat, k ≤ 2 ∧ i = .int .i64 k ∧ (0 < k → a.toList.isEmpty = true) ∧ (1 < k → b.toList.isEmpty = true)) (fun i => 2 - (intOf i).toNat)
  case atStart => exact ⟨0, by omega, rfl, fun h => absurd h (by omega), fun h => absurd h (by omega)⟩
  case round =>
    obtain ⟨k, hk, rfl, ha, hb⟩ := hrel
    have HA := hid ha; clear ha
    have HB := hid hb; clear hb
    rcases (show k = 0 ∨ k = 1 ∨ k = 2 by omega) with rfl | rfl | rfl <;> clear hk
    · cases ea : a.toList.isEmpty
      · have HK := hid (orS_n (b := b) ea)
        go_wp2
        go_ret
        exact ⟨ret_str HK.out.symm, rfl⟩
      · go_wp2
        go_round
        case rel => exact ⟨0+1, by omega, by go_num, fun _ => by first | trivial | exact ea, fun h => absurd h (by omega)⟩
        case measure => simp [intOf]
    · have HK := hid (orS_e (b := b) (HA.out (by omega)))
      cases eb : b.toList.isEmpty
      · go_wp2
        go_ret
        exact ⟨ret_str HK.out.symm, rfl⟩
      · go_wp2
        go_round
        case rel => exact ⟨1+1, by omega, by go_num, fun _ => HA.out (by omega), fun _ => by first | trivial | exact eb⟩
        case measure => simp [intOf]
    · have HK := hid ((orS_e (b := b) (HA.out (by omega))).trans (empty_of (HB.out (by omega))))
      go_wp2
      go_ret
      exact ⟨ret_str HK.out.symm, rfl⟩

/-- the first one that is not 0 -/
def orI (a b : Int) : Int := if a = 0 then b else a
set_option maxRecDepth 20000 in
set_option maxHeartbeats 1000000 in
theorem orI_any (a b v : Int) (x : Nat) (w : World) (h0 : w.cell? ⟨x, 0, none⟩ = some (.int .i64 a)) (h1 : w.cell? ⟨x, 1, none⟩ = some (.int .i64 b)) (hv : orI a b = v) :
    Calls Try.prog 31 #[.slice (some ⟨x, 0, none⟩) 2 2] w fun r w' => r = .returned (.int .i64 v) ∧ w = w' := by
  go_enter Try.func31, Try.ntmps31
  go_wp2
  go_loop [8] (fun i => ∃ k : Nat, k ≤ 2 ∧ i = .int .i64 k ∧ (0 < k → a = 0) ∧ (1 < k → b = 0)) (fun i => 2 - (intOf i).toNat)
  case atStart => exact ⟨0, by omega, rfl, fun h => absurd h (by omega), fun h => absurd h (by omega)⟩
  case round =>
    obtain ⟨k, hk, rfl, ha, hb⟩ := hrel
    have HA := hid ha; clear ha
    have HB := hid hb; clear hb
    have HV := hid hv; clear hv
    rcases (show k = 0 ∨ k = 1 ∨ k = 2 by omega) with rfl | rfl | rfl <;> clear hk
    · by_cases ea : a = 0
      · have HE := hid ea
        go_wp2
        go_round
        case rel => exact ⟨0+1, by omega, by go_num, fun _ => by first | trivial | exact HE.out, fun h => absurd h (by omega)⟩
        case measure => simp [intOf]
      · have HK : Hid (a = v) := hid (by rw [← HV.out]; unfold orI; rw [if_neg ea])
        go_wp2
        go_ret
        exact ⟨ret_int HK.out, rfl⟩
    · have HK : Hid (b = v) := hid (by rw [← HV.out]; unfold orI; rw [if_pos (HA.out (by omega))])
      by_cases eb : b = 0
      · have HE := hid eb
        go_wp2
        go_round
        case rel => exact ⟨1+1, by omega, by go_num, fun _ => HA.out (by omega), fun _ => by first | trivial | exact HE.out⟩
        case measure => simp [intOf]
      · go_wp2
        go_ret
        exact ⟨ret_int HK.out, rfl⟩
    · have HK : Hid (0 = v) := hid (by rw [← HV.out]; unfold orI; rw [if_pos (HA.out (by omega)), HB.out (by omega)])
      go_wp2
      go_ret
      exact ⟨ret_int HK.out, rfl⟩

theorem nz_cases (d e f : ByteArray) : (d.toList.isEmpty = true ∧ e.toList.isEmpty = true ∧ f.toList.isEmpty = true) ∨ d.toList.isEmpty = false ∨ (d.toList.isEmpty = true ∧ e.toList.isEmpty = false) ∨ (d.toList.isEmpty = true ∧ e.toList.isEmpty = true ∧ f.toList.isEmpty = false) := by
  cases d.toList.isEmpty <;> cases e.toList.isEmpty <;> cases f.toList.isEmpty <;> simp
/-- the first subject that is one -/
def orU (x y : ByteArray × ByteArray × ByteArray) : ByteArray × ByteArray × ByteArray := if x.1.toList.isEmpty && x.2.1.toList.isEmpty && x.2.2.toList.isEmpty then y else x
theorem orU_e {d e f : ByteArray} {y : ByteArray × ByteArray × ByteArray} (h1 : d.toList.isEmpty = true) (h2 : e.toList.isEmpty = true) (h3 : f.toList.isEmpty = true) : orU (d, e, f) y = y := by unfold orU; rw [if_pos (by simp [h1, h2, h3])]
theorem orU_n {d e f : ByteArray} {y : ByteArray × ByteArray × ByteArray} (h : (d.toList.isEmpty && e.toList.isEmpty && f.toList.isEmpty) = false) : orU (d, e, f) y = (d, e, f) := by unfold orU; rw [if_neg (by rw [h]; decide)]
set_option maxRecDepth 20000 in
set_option maxHeartbeats 2000000 in
theorem orU_any (d e f d' e' f' p q r : ByteArray) (x : Nat) (w : World) (hx : x < w.heap.size)
    (h0 : w.cell? ⟨x, 0, none⟩ = some (.string d)) (h1 : w.cell? ⟨x, 1, none⟩ = some (.string e)) (h2 : w.cell? ⟨x, 2, none⟩ = some (.string f)) (h3 : w.cell? ⟨x, 3, none⟩ = some (.string d')) (h4 : w.cell? ⟨x, 4, none⟩ = some (.string e')) (h5 : w.cell? ⟨x, 5, none⟩ = some (.string f')) (hv : orU (d, e, f) (d', e', f') = (p, q, r)) :
    Calls Try.prog 35 #[.slice (some ⟨x, 0, none⟩) 2 2] w fun z w' => z = .returned (.agg #[.string p, .string q, .string r]) ∧ Grew w w' := by
  have HV := hid hv; clear hv
  go_enter Try.func35, Try.ntmps35
  go_wp2
  go_loopw [8] (fun i wr => ∃ k : Nat, k ≤ 2 ∧ i = .int .i64 k ∧ (0 < k → d.toList.isEmpty = true ∧ e.toList.isEmpty = true ∧ f.toList.isEmpty = true) ∧ (1 < k → d'.toList.isEmpty = true ∧ e'.toList.isEmpty = true ∧ f'.toList.isEmpty = true) ∧ Grew ((w.alloc (.cells #[.string ⟨#[]⟩, .string ⟨#[]⟩, .string ⟨#[]⟩] 33)).alloc (.cells #[.string ⟨#[]⟩, .string ⟨#[]⟩, .string ⟨#[]⟩] 33)) wr) (fun i _ => 2 - (intOf i).toNat)
  case atStart => exact ⟨0, by omega, rfl, fun h => absurd h (by omega), fun h => absurd h (by omega), gw_refl⟩
  case round =>
    obtain ⟨k, hk, rfl, ha, hb, hw⟩ := hrel
    have HA := hid ha; clear ha
    have HB := hid hb; clear hb
    have hW : Grew w wr := gw_trans (gw_alloc (gw_alloc gw_refl _) _) hw
    have own := own_cells hw.toBelow w.heap.size (by simp <;> omega)
    have own1 := own_cells hw.toBelow (w.heap.size + 1) (by simp)
    have ow := own_cells hW.toBelow x hx
    have c0 : wr.cell? ⟨x, 0, none⟩ = some (.string d) := (ow 0).1.trans h0
    have c1 : wr.cell? ⟨x, 1, none⟩ = some (.string e) := (ow 1).1.trans h1
    have c2 : wr.cell? ⟨x, 2, none⟩ = some (.string f) := (ow 2).1.trans h2
    have c3 : wr.cell? ⟨x, 3, none⟩ = some (.string d') := (ow 3).1.trans h3
    have c4 : wr.cell? ⟨x, 4, none⟩ = some (.string e') := (ow 4).1.trans h4
    have c5 : wr.cell? ⟨x, 5, none⟩ = some (.string f') := (ow 5).1.trans h5
    have r0 : wr.cell? ⟨w.heap.size, 0, none⟩ = some (.string ⟨#[]⟩) := (own 0).1.trans (by go_simp)
    have g0 : wr.frozen? ⟨w.heap.size, 0, none⟩ = false := (own 0).2.trans (by go_simp)
    have z0 : wr.cell? ⟨w.heap.size + 1, 0, none⟩ = some (.string ⟨#[]⟩) := (own1 0).1.trans (by go_simp)
    have r1 : wr.cell? ⟨w.heap.size, 1, none⟩ = some (.string ⟨#[]⟩) := (own 1).1.trans (by go_simp)
    have g1 : wr.frozen? ⟨w.heap.size, 1, none⟩ = false := (own 1).2.trans (by go_simp)
    have z1 : wr.cell? ⟨w.heap.size + 1, 1, none⟩ = some (.string ⟨#[]⟩) := (own1 1).1.trans (by go_simp)
    have r2 : wr.cell? ⟨w.heap.size, 2, none⟩ = some (.string ⟨#[]⟩) := (own 2).1.trans (by go_simp)
    have g2 : wr.frozen? ⟨w.heap.size, 2, none⟩ = false := (own 2).2.trans (by go_simp)
    have z2 : wr.cell? ⟨w.heap.size + 1, 2, none⟩ = some (.string ⟨#[]⟩) := (own1 2).1.trans (by go_simp)
    have hzw : w.heap.size + 1 < wr.heap.size := by have := hw.size; simp at this; omega
    have hz0 : w.heap.size < wr.heap.size := by omega
    have hxw : x < wr.heap.size := by omega
    clear ow own own1 h0 h1 h2 h3 h4 h5
    rcases (show k = 0 ∨ k = 1 ∨ k = 2 by omega) with rfl | rfl | rfl <;> clear hk
    · rcases nz_cases d e f with ⟨e1, e2, e3⟩ | e1 | ⟨e1, e2⟩ | ⟨e1, e2, e3⟩
      · have HE := hid (And.intro e1 (And.intro e2 e3))
        go_wp2
        go_roundw
        case rel => exact ⟨0+1, by omega, by go_num, fun _ => HE.out, fun h => absurd h (by omega), gw_alloc hw _⟩
        case measure => simp [intOf]
      · have HK : Hid ((d, e, f) = (p, q, r)) := hid ((orU_n (y := (d', e', f')) (by simp [e1])).symm.trans HV.out)
        go_wp2
        (try simp only [Exit.inBlock, Exit.then])
        refine bodyPost_ret (v := .agg #[.string d, .string e, .string f]) ?_ rfl ?_
        · simp [results, Try.results35, go_sem, *]
        · refine ⟨by have h := HK.out; injection h with h1 h2; injection h2 with h2 h3; rw [h1, h2, h3], ?_⟩
          repeat (first | (with_reducible refine gw_alloc ?_ _) | (with_reducible refine gw_set ?_ (Nat.le_refl _) _))
          exact hW
      · have HK : Hid ((d, e, f) = (p, q, r)) := hid ((orU_n (y := (d', e', f')) (by simp [e1, e2])).symm.trans HV.out)
        go_wp2
        (try simp only [Exit.inBlock, Exit.then])
        refine bodyPost_ret (v := .agg #[.string d, .string e, .string f]) ?_ rfl ?_
        · simp [results, Try.results35, go_sem, *]
        · refine ⟨by have h := HK.out; injection h with h1 h2; injection h2 with h2 h3; rw [h1, h2, h3], ?_⟩
          repeat (first | (with_reducible refine gw_alloc ?_ _) | (with_reducible refine gw_set ?_ (Nat.le_refl _) _))
          exact hW
      · have HK : Hid ((d, e, f) = (p, q, r)) := hid ((orU_n (y := (d', e', f')) (by simp [e1, e2, e3])).symm.trans HV.out)
        go_wp2
        (try simp only [Exit.inBlock, Exit.then])
        refine bodyPost_ret (v := .agg #[.string d, .string e, .string f]) ?_ rfl ?_
        · simp [results, Try.results35, go_sem, *]
        · refine ⟨by have h := HK.out; injection h with h1 h2; injection h2 with h2 h3; rw [h1, h2, h3], ?_⟩
          repeat (first | (with_reducible refine gw_alloc ?_ _) | (with_reducible refine gw_set ?_ (Nat.le_refl _) _))
          exact hW
    · obtain ⟨a1, a2, a3⟩ := HA.out (by omega)
      have HK : Hid ((d', e', f') = (p, q, r)) := hid ((orU_e (y := (d', e', f')) a1 a2 a3).symm.trans HV.out)
      clear a1 a2 a3
      rcases nz_cases d' e' f' with ⟨e1, e2, e3⟩ | e1 | ⟨e1, e2⟩ | ⟨e1, e2, e3⟩
      · have HE := hid (And.intro e1 (And.intro e2 e3))
        go_wp2
        go_roundw
        case rel => exact ⟨1+1, by omega, by go_num, fun _ => HA.out (by omega), fun _ => HE.out, gw_alloc hw _⟩
        case measure => simp [intOf]
      · go_wp2
        (try simp only [Exit.inBlock, Exit.then])
        refine bodyPost_ret (v := .agg #[.string d', .string e', .string f']) ?_ rfl ?_
        · simp [results, Try.results35, go_sem, *]
        · refine ⟨by have h := HK.out; injection h with h1 h2; injection h2 with h2 h3; rw [h1, h2, h3], ?_⟩
          repeat (first | (with_reducible refine gw_alloc ?_ _) | (with_reducible refine gw_set ?_ (Nat.le_refl _) _))
          exact hW
      · go_wp2
        (try simp only [Exit.inBlock, Exit.then])
        refine bodyPost_ret (v := .agg #[.string d', .string e', .string f']) ?_ rfl ?_
        · simp [results, Try.results35, go_sem, *]
        · refine ⟨by have h := HK.out; injection h with h1 h2; injection h2 with h2 h3; rw [h1, h2, h3], ?_⟩
          repeat (first | (with_reducible refine gw_alloc ?_ _) | (with_reducible refine gw_set ?_ (Nat.le_refl _) _))
          exact hW
      · go_wp2
        (try simp only [Exit.inBlock, Exit.then])
        refine bodyPost_ret (v := .agg #[.string d', .string e', .string f']) ?_ rfl ?_
        · simp [results, Try.results35, go_sem, *]
        · refine ⟨by have h := HK.out; injection h with h1 h2; injection h2 with h2 h3; rw [h1, h2, h3], ?_⟩
          repeat (first | (with_reducible refine gw_alloc ?_ _) | (with_reducible refine gw_set ?_ (Nat.le_refl _) _))
          exact hW
    · obtain ⟨a1, a2, a3⟩ := HA.out (by omega)
      obtain ⟨b1, b2, b3⟩ := HB.out (by omega)
      have HK : Hid ((⟨#[]⟩, ⟨#[]⟩, ⟨#[]⟩) = (p, q, r)) := hid (by rw [← HV.out, orU_e a1 a2 a3, empty_of b1, empty_of b2, empty_of b3])
      clear a1 a2 a3 b1 b2 b3
      go_wp2
      (try simp only [Exit.inBlock, Exit.then])
      refine bodyPost_ret (v := .agg #[.string ⟨#[]⟩, .string ⟨#[]⟩, .string ⟨#[]⟩]) ?_ rfl ?_
      · simp [results, Try.results35, go_sem, *]
      · refine ⟨by have h := HK.out; injection h with h1 h2; injection h2 with h2 h3; subst h1; subst h2; subst h3; rfl, ?_⟩
        repeat (first | (with_reducible refine gw_alloc ?_ _) | (with_reducible refine gw_set ?_ (Nat.le_refl _) _))
        exact hW
end Go.Proofs.Ytgfgfggoofjeeaa
