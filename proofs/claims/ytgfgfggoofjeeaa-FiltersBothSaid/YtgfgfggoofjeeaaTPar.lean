/-
  THE CONTRACTS of the reference's place and Parse of layer 1.
-/
import Derived.Test.YtgfgfggoofjeeaaWParse
import Derived.Test.YtgfgfggoofjeeaaTRow
import Derived.RegionTactic
import Derived.BigRegion
import Derived.Deep.DeepCutAuto
namespace Go.Proofs.Ytgfgfggoofjeeaa
open Go.RowKit Go.Sort

theorem int_eq {k : IntKind} {a b : Int} (h : a = b) : Value.int k a = .int k b := by rw [h]
/-- where a byte is first, the length if it is nowhere -/
def ix (s : ByteArray) (c : UInt8) : Nat := s.data.toList.idxOf c
def cn (s : ByteArray) (c : UInt8) : Nat := Lib.countByte s.data.toList c
/-- the same behind a place -/
def ixK (s : ByteArray) (c : UInt8) (k : Nat) : Nat := k + (s.data.toList.drop k).idxOf c
def cnK (s : ByteArray) (c : UInt8) (k : Nat) : Nat := (s.data.toList.drop k).count c
theorem ixK_zero (s : ByteArray) (c : UInt8) : ixK s c 0 = ix s c := by unfold ixK ix; simp
theorem cnK_zero (s : ByteArray) (c : UInt8) : cnK s c 0 = cn s c := by unfold cnK cn Lib.countByte; simp
theorem ixK_end (s : ByteArray) (c : UInt8) : ixK s c s.size = s.size := by unfold ixK; rw [List.drop_eq_nil_of_le (by simp)]; simp
theorem cnK_end (s : ByteArray) (c : UInt8) : cnK s c s.size = 0 := by unfold cnK; rw [List.drop_eq_nil_of_le (by simp)]; rfl
theorem ixK_yes {s : ByteArray} {c : UInt8} {k : Nat} (h : k < s.size) (e : s[k] = c) : ixK s c k = k := by
  unfold ixK; rw [drop_at s k h, List.idxOf_cons, e]; simp
theorem ixK_no {s : ByteArray} {c : UInt8} {k : Nat} (h : k < s.size) (e : ¬ s[k] = c) : ixK s c k = ixK s c (k + 1) := by
  unfold ixK; rw [drop_at s k h, List.idxOf_cons]
  have : (s[k] == c) = false := beq_eq_false_iff_ne.2 e
  rw [this]; simp; omega
theorem cnK_yes {s : ByteArray} {c : UInt8} {k : Nat} (h : k < s.size) (e : s[k] = c) : cnK s c k = cnK s c (k + 1) + 1 := by
  unfold cnK; rw [drop_at s k h, List.count_cons, e]; simp
theorem cnK_no {s : ByteArray} {c : UInt8} {k : Nat} (h : k < s.size) (e : ¬ s[k] = c) : cnK s c k = cnK s c (k + 1) := by
  unfold cnK; rw [drop_at s k h, List.count_cons]
  have : (s[k] == c) = false := beq_eq_false_iff_ne.2 e
  rw [this]; simp
theorem cnK_le (s : ByteArray) (c : UInt8) (k : Nat) (hk : k ≤ s.size) : cnK s c k + k ≤ s.size := by
  unfold cnK
  have := List.count_le_length (a := c) (l := s.data.toList.drop k)
  rw [List.length_drop, length_data] at this; omega

set_option maxHeartbeats 800000 in
theorem rplace (s : ByteArray) (c : UInt8) (w : World) (hs : s.size ≤ maxLen) :
    Calls Try.prog 102 #[.string s, .int .u8 (c.toNat : Int)] w fun e w' => e = .returned (.tuple #[.int .i64 (ix s c : Nat), .int .i64 (cn s c : Nat)]) ∧ w = w' := by
  unfold maxLen at hs
  have HI := hid (ixK_zero s c)
  have HC := hid (cnK_zero s c)
  have hw0 : IntKind.i64.wrap ((s.size : Int) - 1) = (s.size : Int) - 1 := IntWalk.i64_in _ (by omega)
  have b0 : (0 : Int) ≤ (s.size : Int) := by omega
  go_enter Try.func102, Try.ntmps102
  go_wp2
  go_loop [6, 7, 8] (fun a n i => ∃ k : Nat, k ≤ s.size ∧ a = .int .i64 (ixK s c k : Nat) ∧ n = .int .i64 (cnK s c k : Nat) ∧ i = .int .i64 ((k : Int) - 1)) (fun _ _ i => (intOf i + 1).toNat)
  case atStart => exact ⟨s.size, Nat.le_refl _, by rw [ixK_end], by rw [cnK_end]; rfl, rfl⟩
  case round =>
    obtain ⟨k, hk, rfl, rfl, rfl⟩ := hrel
    have hcl := cnK_le s c k hk
    by_cases hk0 : 0 < k
    · obtain ⟨m, rfl⟩ : ∃ m, k = m + 1 := ⟨k - 1, by omega⟩
      have hm : m < s.size := by omega
      have b1 : (0 : Int) ≤ (m : Int) := by omega
      have b2 : (m : Int) < (s.size : Int) := by omega
      have e1 : IntKind.i64.wrap ((m : Int) - 1) = (m : Int) - 1 := IntWalk.i64_in _ (by omega)
      by_cases he : s[m] = c
      · have hq : ((s[m].toNat : Int) == (c.toNat : Int)) = true := by rw [he]; simp
        have H1 := hid (ixK_yes hm he)
        have H2 := hid (cnK_yes hm he)
        clear he
        go_wp2
        go_round
        case rel => exact ⟨m, by omega, int_eq (by rw [H1.out]; omega), int_eq (by rw [H2.out]; omega), rfl⟩
        case measure => simp [intOf]; try omega
      · have hq : ((s[m].toNat : Int) == (c.toNat : Int)) = false := beq_eq_false_iff_ne.2 fun e => he (UInt8.toNat_inj.1 (by omega))
        have H1 := hid (ixK_no hm he)
        have H2 := hid (cnK_no hm he)
        clear he
        go_wp2
        go_round
        case rel => exact ⟨m, by omega, int_eq (by rw [H1.out]), int_eq (by rw [H2.out]), rfl⟩
        case measure => simp [intOf]; try omega
    · obtain rfl : k = 0 := by omega
      go_wp2
      go_ret2
      exact ⟨by rw [← HI.out, ← HC.out]; rfl, rfl⟩

/-- what the reference reads: the object, the relation, whether it has a sign, the number of the error -/
def rpar (s : ByteArray) : ByteArray × ByteArray × ByteArray × Bool × Int :=
  if ¬ cn s 58 = 1 ∨ 1 < cn s 35 ∨ ix s 35 < ix s 58 then (⟨#[]⟩, ⟨#[]⟩, ⟨#[]⟩, false, 5)
  else if cn s 35 = 0 then (s.extract 0 (ix s 58), s.extract (ix s 58 + 1) (ix s 35), ⟨#[]⟩, false, err (nb (s.extract 0 (ix s 58)) && nb (s.extract (ix s 58 + 1) (ix s 35))))
  else (s.extract 0 (ix s 58), s.extract (ix s 58 + 1) (ix s 35), s.extract (ix s 35 + 1) s.size, true, err (nb (s.extract 0 (ix s 58)) && nb (s.extract (ix s 58 + 1) (ix s 35)) && nb (s.extract (ix s 35 + 1) s.size)))
/-- what Parse of the reference leaves -/
def RParRet (s : ByteArray) (w : World) (e : Ending) (w' : World) : Prop :=
  e = .returned (.tuple #[.agg #[.string (rpar s).1, .string (rpar s).2.1], .string (rpar s).2.2.1, .bool (rpar s).2.2.2.1, .int .i64 (rpar s).2.2.2.2]) ∧ Below w.heap.size w w'
theorem rplace_v (s : ByteArray) (c : UInt8) (cv : Int) (i n : Nat) (w : World) (hs : s.size ≤ maxLen) (hc : (c.toNat : Int) = cv) (hi : ix s c = i) (hn : cn s c = n) :
    Calls Try.prog 102 #[.string s, .int .u8 cv] w fun e w' => e = .returned (.tuple #[.int .i64 i, .int .i64 n]) ∧ w = w' := by
  have q := rplace s c w hs; rw [hc, hi, hn] at q; exact q
theorem ix_le (s : ByteArray) (c : UInt8) : ix s c ≤ s.size := by
  unfold ix
  have := List.idxOf_le_length (a := c) (l := s.data.toList)
  rwa [length_data] at this
theorem ix_lt {s : ByteArray} {c : UInt8} (h : 0 < cn s c) : ix s c < s.size := by
  unfold ix
  have := List.idxOf_lt_length_of_mem (List.count_pos_iff.1 h)
  rwa [length_data] at this
theorem ix_none {s : ByteArray} {c : UInt8} (h : cn s c = 0) : ix s c = s.size := by
  unfold ix
  have : c ∉ s.data.toList := List.count_eq_zero.1 h
  rw [List.idxOf_eq_length this, length_data]

set_option maxHeartbeats 2000000 in
theorem rparse_form (s : ByteArray) (w : World) (hs : s.size ≤ maxLen) (i j n m : Nat) (hi : ix s 58 = i) (hn : cn s 58 = n) (hj : ix s 35 = j) (hm : cn s 35 = m) (h : ¬ n = 1 ∨ 1 < m ∨ j < i) :
    Calls Try.prog 81 #[.string s] w (RParRet s w) := by
  have F : Hid (rpar s = (⟨#[]⟩, ⟨#[]⟩, ⟨#[]⟩, false, 5)) := by show _ = _; unfold rpar; rw [hn, hm, hi, hj, if_pos h]
  have P1 := fun W => rplace_v s 58 58 i n W hs rfl hi hn
  have P2 := fun W => rplace_v s 35 35 j m W hs rfl hj hm
  have HP1 := hid P1; clear P1
  have HP2 := hid P2; clear P2
  clear hi hn hj hm hs
  by_cases h1 : n = 1
  · subst h1
    by_cases h2 : 1 < m
    · go_enter Try.func81, Try.ntmps81
      go_wp2_with fail
      refine (HP1.out _).mono ?_
      rintro e w' ⟨rfl, rfl⟩
      go_wp2_with fail
      refine (HP2.out _).mono ?_
      rintro e w' ⟨rfl, rfl⟩
      go_wp2
      exact bodyPost_ret (v := .tuple #[.agg #[.string ⟨#[]⟩, .string ⟨#[]⟩], .string ⟨#[]⟩, .bool false, .int .i64 5]) (by simp [results, Try.results81, go_sem]) rfl ⟨by rw [F.out], g_alloc g_refl _⟩
    · have h3 : j < i := by omega
      go_enter Try.func81, Try.ntmps81
      go_wp2_with fail
      refine (HP1.out _).mono ?_
      rintro e w' ⟨rfl, rfl⟩
      go_wp2_with fail
      refine (HP2.out _).mono ?_
      rintro e w' ⟨rfl, rfl⟩
      go_wp2
      exact bodyPost_ret (v := .tuple #[.agg #[.string ⟨#[]⟩, .string ⟨#[]⟩], .string ⟨#[]⟩, .bool false, .int .i64 5]) (by simp [results, Try.results81, go_sem]) rfl ⟨by rw [F.out], g_alloc g_refl _⟩
  · have h4 : ((n : Int) == 1) = false := beq_eq_false_iff_ne.2 (by omega)
    go_enter Try.func81, Try.ntmps81
    go_wp2_with fail
    refine (HP1.out _).mono ?_
    rintro e w' ⟨rfl, rfl⟩
    go_wp2_with fail
    refine (HP2.out _).mono ?_
    rintro e w' ⟨rfl, rfl⟩
    go_wp2
    exact bodyPost_ret (v := .tuple #[.agg #[.string ⟨#[]⟩, .string ⟨#[]⟩], .string ⟨#[]⟩, .bool false, .int .i64 5]) (by simp [results, Try.results81, go_sem]) rfl ⟨by rw [F.out], g_alloc g_refl _⟩

/-- what a cell holds -/
def rv (q o : Nat) (w : World) : Value := (w.cell? ⟨q, o, none⟩).getD undef
theorem rv_some {w : World} {q o : Nat} {v : Value} (h : w.cell? ⟨q, o, none⟩ = some v) : w.cell? ⟨q, o, none⟩ = some (rv q o w) := by unfold rv; rw [h]; rfl
theorem rv_same {w w' : World} {q o : Nat} (e : w'.cell? ⟨q, o, none⟩ = w.cell? ⟨q, o, none⟩) (h : w.cell? ⟨q, o, none⟩ = some (rv q o w)) : w'.cell? ⟨q, o, none⟩ = some (rv q o w') := rv_some (e.trans h)
theorem rv_set0 {W : World} {q : Nat} {u v : Value} (h : (W.cell? ⟨q, 0, none⟩).isSome = true) : rv q 0 ((W.setCell ⟨q, 0, none⟩ u).setCell ⟨q, 1, none⟩ v) = u := by
  obtain ⟨x, hx⟩ := Option.isSome_iff_exists.1 h
  unfold rv; go_simp
theorem rv_set1 {W : World} {q : Nat} {u v : Value} (h : (W.cell? ⟨q, 1, none⟩).isSome = true) : rv q 1 ((W.setCell ⟨q, 0, none⟩ u).setCell ⟨q, 1, none⟩ v) = v := by
  obtain ⟨x, hx⟩ := Option.isSome_iff_exists.1 h
  unfold rv; go_simp
/-- what lies in memory behind the reference's first pieces -/
def Pcs (sp id : ByteArray) (p q : Nat) (wx : World) : Prop :=
  wx.cell? ⟨p, 0, none⟩ = some (.string sp) ∧ wx.cell? ⟨p, 1, none⟩ = some (.string id) ∧ wx.cell? ⟨q, 0, none⟩ = some (rv q 0 wx) ∧ wx.cell? ⟨q, 1, none⟩ = some (rv q 1 wx) ∧ wx.frozen? ⟨q, 0, none⟩ = false ∧ wx.frozen? ⟨q, 1, none⟩ = false ∧ p < wx.heap.size ∧ q < wx.heap.size
theorem pcs_keep {sp id : ByteArray} {p q : Nat} {W W' : World} (hb : Below W.heap.size W W') (h : Pcs sp id p q W) : Pcs sp id p q W' := by
  obtain ⟨h0, h1, h2, h3, h6, h7, h4, h5⟩ := h
  exact ⟨(own_cells hb _ h4 _).1.trans h0, (own_cells hb _ h4 _).1.trans h1, rv_same (own_cells hb _ h5 _).1 h2, rv_same (own_cells hb _ h5 _).1 h3, (own_cells hb _ h5 _).2.trans h6, (own_cells hb _ h5 _).2.trans h7, Nat.lt_of_lt_of_le h4 hb.size, Nat.lt_of_lt_of_le h5 hb.size⟩
theorem pcs_set {sp id : ByteArray} {p q : Nat} {W : World} {u v : Value} (hpq : q < p) (h : Pcs sp id p q W) : Pcs sp id p q ((W.setCell ⟨q, 0, none⟩ u).setCell ⟨q, 1, none⟩ v) := by
  obtain ⟨h0, h1, h2, h3, h6, h7, h4, h5⟩ := h
  have ne : ∀ o k : Nat, (⟨p, o, none⟩ : Addr) ≠ ⟨q, k, none⟩ := fun o k e => by injection e with e; omega
  have ne2 : ∀ o k : Nat, (⟨q, o, none⟩ : Addr) ≠ ⟨p, k, none⟩ := fun o k e => by injection e with e; omega
  refine ⟨?_, ?_, rv_some (v := u) ?_, rv_some (v := v) ?_, ?_, ?_, ?_, ?_⟩
  · rw [World.cell?_setCell_other _ _ _ _ (by first | exact ne _ _ | exact ne2 _ _), World.cell?_setCell_other _ _ _ _ (by first | exact ne _ _ | exact ne2 _ _)]; exact h0
  · rw [World.cell?_setCell_other _ _ _ _ (by first | exact ne _ _ | exact ne2 _ _), World.cell?_setCell_other _ _ _ _ (by first | exact ne _ _ | exact ne2 _ _)]; exact h1
  · go_simp
  · go_simp
  · rw [World.frozen?_setCell, World.frozen?_setCell]; exact h6
  · rw [World.frozen?_setCell, World.frozen?_setCell]; exact h7
  · simpa [World.setCell] using h4
  · simpa [World.setCell] using h5

set_option maxHeartbeats 2000000 in
theorem rparse_bare (s : ByteArray) (w : World) (hs : s.size ≤ maxLen) (i : Nat) (hi : ix s 58 = i) (hn : cn s 58 = 1) (hm : cn s 35 = 0) :
    Calls Try.prog 81 #[.string s] w (RParRet s w) := by
  have hj := ix_none hm
  have hil : i < s.size := by rw [← hi]; exact ix_lt (by omega)
  have F : Hid (rpar s = (s.extract 0 i, s.extract (i + 1) s.size, ⟨#[]⟩, false, err (nb (s.extract 0 i) && nb (s.extract (i + 1) s.size)))) := by
    show _ = _; unfold rpar; rw [hn, hm, hi, hj, if_neg (by omega), if_pos rfl]
  have P1 := fun W => rplace_v s 58 58 i 1 W hs rfl hi hn
  have P2 := fun W => rplace_v s 35 35 s.size 0 W hs rfl hj hm
  have HP1 := hid P1; clear P1
  have HP2 := hid P2; clear P2
  clear hi hn hj hm
  unfold maxLen at hs
  have b1 : (0 : Int) ≤ (i : Int) := by omega
  have b2 : (i : Int) < (s.size : Int) := by omega
  have b3 : (i : Int) + 1 ≤ (s.size : Int) := by omega
  have b4 : (0 : Int) ≤ (i : Int) + 1 := by omega
  have e1 : IntKind.i64.wrap ((i : Int) + 1) = (i : Int) + 1 := IntWalk.i64_in _ (by omega)
  have e2 : ((i : Int) + 1).toNat = i + 1 := by omega
  go_enter Try.func81, Try.ntmps81
  go_wp2_with fail
  refine (HP1.out _).mono ?_
  rintro e w' ⟨rfl, rfl⟩
  go_wp2_with fail
  refine (HP2.out _).mono ?_
  rintro e w' ⟨rfl, rfl⟩
  have hsp : (s.extract 0 i).size ≤ maxLen := by unfold maxLen; simp [ByteArray.size_extract]; omega
  have hid2 : (s.extract (i + 1) s.size).size ≤ maxLen := by unfold maxLen; simp [ByteArray.size_extract]; omega
  go_upto_region 5 with fail
  go_cut [10] (fun s10 wx => ∃ p : Nat, s10 = .pointer (some ⟨p, 0, none⟩) ∧ w.heap.size < p ∧ (wx.cell? ⟨p, 0, none⟩ = some (.string (s.extract 0 i)) ∧ wx.cell? ⟨p, 1, none⟩ = some (.string (s.extract (i + 1) s.size)) ∧ wx.cell? ⟨w.heap.size, 0, none⟩ = some (rv w.heap.size 0 wx) ∧ wx.cell? ⟨w.heap.size, 1, none⟩ = some (rv w.heap.size 1 wx) ∧ wx.frozen? ⟨w.heap.size, 0, none⟩ = false ∧ wx.frozen? ⟨w.heap.size, 1, none⟩ = false ∧ p < wx.heap.size ∧ w.heap.size < wx.heap.size) ∧ Below w.heap.size w wx)
  case first =>
    go_region
    go_wp2_with fail
    go_meet
    exact ⟨_, rfl, by simp, ⟨by go_simp, by go_simp, rv_some (v := .string ⟨#[]⟩) (by go_simp), rv_some (v := .string ⟨#[]⟩) (by go_simp), by go_simp, by go_simp, by simp, by simp; omega⟩, g_drew (g_alloc (g_alloc g_refl _) _)⟩
  case rest =>
    obtain ⟨p, rfl, hpw, hS, hB⟩ := hcut
    generalize s.extract 0 i = sp at *
    generalize s.extract (i + 1) s.size = id at *
    go_wp2_with fail
    go_region_held3 (fun w' => (w'.cell? ⟨p, 0, none⟩ = some (.string sp) ∧ w'.cell? ⟨p, 1, none⟩ = some (.string id) ∧ w'.cell? ⟨w.heap.size, 0, none⟩ = some (rv w.heap.size 0 w') ∧ w'.cell? ⟨w.heap.size, 1, none⟩ = some (rv w.heap.size 1 w') ∧ w'.frozen? ⟨w.heap.size, 0, none⟩ = false ∧ w'.frozen? ⟨w.heap.size, 1, none⟩ = false ∧ p < w'.heap.size ∧ w.heap.size < w'.heap.size)) (first | assumption | exact pcs_keep (by assumption) (by assumption) | exact pcs_set hpw (by assumption))
      (first | (go_at_call 67; refine (robject_any sp id _ hsp hid2).mono ?_; rintro e w' ⟨rfl, hv1⟩))
    obtain ⟨-, -, hq0, hq1, -, -, -, hqs⟩ := hS
    have r0 := (own_cells hv1 w.heap.size hqs 0).1.trans hq0
    have r1 := (own_cells hv1 w.heap.size hqs 1).1.trans hq1
    have E0 := rv_set0 (W := w') (q := w.heap.size) (u := .string sp) (v := .string id) (by rw [r0]; rfl)
    have E1 := rv_set1 (W := w') (q := w.heap.size) (u := .string sp) (v := .string id) (by rw [r1]; rfl)
    clear hq0 hq1 r0 r1
    go_wp2
    exact bodyPost_ret (v := .tuple #[.agg #[.string sp, .string id], .string ⟨#[]⟩, .bool false, .int .i64 (err (nb sp && nb id))]) (by simp [results, Try.results81, go_sem, *]) rfl ⟨by rw [F.out], g_set (g_set (g_trans (g_drew hB) hv1) (Nat.le_refl _) _) (Nat.le_refl _) _⟩

theorem rcheck_v (s : ByteArray) (b : Bool) (w : World) (hs : s.size ≤ maxLen) (hb : nb s = b) :
    Calls Try.prog 36 #[.string s] w fun e w' => e = .returned (.int .i64 (err b)) ∧ w = w' := by
  have q := rcheck_nb s w hs; rw [hb] at q; exact q
theorem robject_v (a c : ByteArray) (b : Bool) (w : World) (ha : a.size ≤ maxLen) (hc : c.size ≤ maxLen) (hb : (nb a && nb c) = b) :
    Calls Try.prog 67 #[.agg #[.string a, .string c]] w fun e w' => e = .returned (.int .i64 (err b)) ∧ Below w.heap.size w w' := by
  have q := robject_any a c w ha hc; rw [hb] at q; exact q

set_option maxRecDepth 100000 in
set_option maxHeartbeats 4000000 in
theorem rparse_full (s : ByteArray) (w : World) (hs : s.size ≤ maxLen) (i j : Nat) (hi : ix s 58 = i) (hn : cn s 58 = 1) (hj : ix s 35 = j) (hm : cn s 35 = 1) (hij : ¬ j < i) :
    Calls Try.prog 81 #[.string s] w (RParRet s w) := by
  have hil : i < s.size := by rw [← hi]; exact ix_lt (by omega)
  have hjl : j < s.size := by rw [← hj]; exact ix_lt (by omega)
  have hne : i ≠ j := fun e => by
    have h1 : s.data.toList[ix s 58]? = some 58 := by
      have := List.idxOf_lt_length_of_mem (l := s.data.toList) (a := 58) (List.count_pos_iff.1 (show 0 < cn s 58 by omega))
      unfold ix; rw [List.getElem?_eq_getElem this, List.getElem_idxOf this]
    have h2 : s.data.toList[ix s 35]? = some 35 := by
      have := List.idxOf_lt_length_of_mem (l := s.data.toList) (a := 35) (List.count_pos_iff.1 (show 0 < cn s 35 by omega))
      unfold ix; rw [List.getElem?_eq_getElem this, List.getElem_idxOf this]
    rw [hi, e, ← hj, h2] at h1
    injection h1 with h1; exact absurd h1 (by decide)
  have F : Hid (rpar s = (s.extract 0 i, s.extract (i + 1) j, s.extract (j + 1) s.size, true, err (nb (s.extract 0 i) && nb (s.extract (i + 1) j) && nb (s.extract (j + 1) s.size)))) := by
    show _ = _; unfold rpar; rw [hn, hm, hi, hj, if_neg (by omega), if_neg (by decide)]
  have P1 := fun W => rplace_v s 58 58 i 1 W hs rfl hi hn
  have P2 := fun W => rplace_v s 35 35 j 1 W hs rfl hj hm
  have HP1 := hid P1; clear P1
  have HP2 := hid P2; clear P2
  clear hi hn hj hm
  unfold maxLen at hs
  have b1 : (0 : Int) ≤ (i : Int) := by omega
  have b2 : (i : Int) < (j : Int) := by omega
  have b3 : (i : Int) + 1 ≤ (j : Int) := by omega
  have b4 : (0 : Int) ≤ (i : Int) + 1 := by omega
  have e1 : IntKind.i64.wrap ((i : Int) + 1) = (i : Int) + 1 := IntWalk.i64_in _ (by omega)
  have e2 : ((i : Int) + 1).toNat = i + 1 := by omega
  have d1 : (0 : Int) ≤ (j : Int) := by omega
  have d2 : (j : Int) < (s.size : Int) := by omega
  have d3 : (j : Int) + 1 ≤ (s.size : Int) := by omega
  have d4 : (0 : Int) ≤ (j : Int) + 1 := by omega
  have d5 : IntKind.i64.wrap ((j : Int) + 1) = (j : Int) + 1 := IntWalk.i64_in _ (by omega)
  have d6 : ((j : Int) + 1).toNat = j + 1 := by omega
  have hsp : (s.extract 0 i).size ≤ maxLen := by unfold maxLen; simp [ByteArray.size_extract]; omega
  have hid2 : (s.extract (i + 1) j).size ≤ maxLen := by unfold maxLen; simp [ByteArray.size_extract]; omega
  have hrl : (s.extract (j + 1) s.size).size ≤ maxLen := by unfold maxLen; simp [ByteArray.size_extract]; omega
  go_enter Try.func81, Try.ntmps81
  go_wp2_with fail
  refine (HP1.out _).mono ?_
  rintro e w' ⟨rfl, rfl⟩
  go_wp2_with fail
  refine (HP2.out _).mono ?_
  rintro e w' ⟨rfl, rfl⟩
  go_upto_region 5 with fail
  go_cut [10] (fun s10 wx => ∃ p : Nat, s10 = .pointer (some ⟨p, 0, none⟩) ∧ w.heap.size < p ∧ (wx.cell? ⟨p, 0, none⟩ = some (.string (s.extract 0 i)) ∧ wx.cell? ⟨p, 1, none⟩ = some (.string (s.extract (i + 1) j)) ∧ wx.cell? ⟨w.heap.size, 0, none⟩ = some (rv w.heap.size 0 wx) ∧ wx.cell? ⟨w.heap.size, 1, none⟩ = some (rv w.heap.size 1 wx) ∧ wx.frozen? ⟨w.heap.size, 0, none⟩ = false ∧ wx.frozen? ⟨w.heap.size, 1, none⟩ = false ∧ p < wx.heap.size ∧ w.heap.size < wx.heap.size) ∧ Below w.heap.size w wx)
  case first =>
    go_region
    go_wp2_with fail
    go_meet
    exact ⟨_, rfl, by simp, ⟨by go_simp, by go_simp, rv_some (v := .string ⟨#[]⟩) (by go_simp), rv_some (v := .string ⟨#[]⟩) (by go_simp), by go_simp, by go_simp, by simp, by simp; omega⟩, g_drew (g_alloc (g_alloc g_refl _) _)⟩
  case rest =>
    obtain ⟨p, rfl, hpw, hS, hB⟩ := hcut
    obtain ⟨sp, hsp2⟩ : ∃ x, s.extract 0 i = x := ⟨_, rfl⟩
    obtain ⟨id, hid3⟩ : ∃ x, s.extract (i + 1) j = x := ⟨_, rfl⟩
    obtain ⟨rel, hrel2⟩ : ∃ x, s.extract (j + 1) s.size = x := ⟨_, rfl⟩
    rw [hsp2, hid3, hrel2] at F
    rw [hsp2] at hsp hS
    rw [hid3] at hid2 hS
    rw [hrel2] at hrl
    clear hsp2 hid3
    obtain ⟨u, hu⟩ : ∃ u, (nb sp && nb id) = u := ⟨_, rfl⟩
    obtain ⟨v, hv⟩ : ∃ v, nb rel = v := ⟨_, rfl⟩
    rw [hu, hv] at F
    have HU := hid hu; clear hu
    have HV := hid hv; clear hv
    cases u <;> cases v
    all_goals
      go_wp2_with fail
      go_region_held3 (fun w' => (w'.cell? ⟨p, 0, none⟩ = some (.string sp) ∧ w'.cell? ⟨p, 1, none⟩ = some (.string id) ∧ w'.cell? ⟨w.heap.size, 0, none⟩ = some (rv w.heap.size 0 w') ∧ w'.cell? ⟨w.heap.size, 1, none⟩ = some (rv w.heap.size 1 w') ∧ w'.frozen? ⟨w.heap.size, 0, none⟩ = false ∧ w'.frozen? ⟨w.heap.size, 1, none⟩ = false ∧ p < w'.heap.size ∧ w.heap.size < w'.heap.size)) (first | assumption | exact pcs_keep (by assumption) (by assumption) | exact pcs_set hpw (by assumption))
        (first | (go_at_call 67; refine (robject_v sp id _ _ hsp hid2 HU.out).mono ?_; rintro e w' ⟨rfl, hv1⟩) | (go_at_call 36; refine (rcheck_v rel _ _ hrl HV.out).mono ?_; rintro e w' ⟨rfl, rfl⟩))
      all_goals
        obtain ⟨-, -, hq0, hq1, -, -, -, hqs⟩ := hS
        have r0 := (own_cells hv1 w.heap.size hqs 0).1.trans hq0
        have r1 := (own_cells hv1 w.heap.size hqs 1).1.trans hq1
        have E0 := rv_set0 (W := w') (q := w.heap.size) (u := .string sp) (v := .string id) (by rw [r0]; rfl)
        have E1 := rv_set1 (W := w') (q := w.heap.size) (u := .string sp) (v := .string id) (by rw [r1]; rfl)
        clear hq0 hq1 r0 r1
        go_wp2
        first
          | exact bodyPost_ret (v := .tuple #[.agg #[.string sp, .string id], .string rel, .bool true, .int .i64 0]) (by simp [results, Try.results81, go_sem, err, *]; try decide) rfl ⟨by rw [F.out]; rfl, g_set (g_set (g_trans (g_drew hB) hv1) (Nat.le_refl _) _) (Nat.le_refl _) _⟩
          | exact bodyPost_ret (v := .tuple #[.agg #[.string sp, .string id], .string rel, .bool true, .int .i64 6]) (by simp [results, Try.results81, go_sem, err, *]; try decide) rfl ⟨by rw [F.out]; rfl, g_set (g_set (g_trans (g_drew hB) hv1) (Nat.le_refl _) _) (Nat.le_refl _) _⟩

theorem rparse (s : ByteArray) (w : World) (hs : s.size ≤ maxLen) :
    Calls Try.prog 81 #[.string s] w (RParRet s w) := by
  by_cases h : ¬ cn s 58 = 1 ∨ 1 < cn s 35 ∨ ix s 35 < ix s 58
  · exact rparse_form s w hs _ _ _ _ rfl rfl rfl rfl h
  · by_cases h0 : cn s 35 = 0
    · exact rparse_bare s w hs _ rfl (by omega) h0
    · exact rparse_full s w hs _ _ rfl (by omega) rfl (by omega) (by omega)

end Go.Proofs.Ytgfgfggoofjeeaa
