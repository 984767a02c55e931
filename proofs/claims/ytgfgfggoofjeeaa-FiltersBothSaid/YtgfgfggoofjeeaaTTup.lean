/-
  THE CONTRACT of the reference's Parse of tuples.
-/
import Derived.Test.YtgfgfggoofjeeaaTPar
namespace Go.Proofs.Ytgfgfggoofjeeaa
open Go.RowKit Go.Sort

/-- where a byte was last below a place -/
def atK (s : ByteArray) (c : UInt8) : Nat → Nat
  | 0 => 0
  | k + 1 => if s.data.toList[k]? = some c then k else atK s c k
def nK (s : ByteArray) (c : UInt8) (k : Nat) : Nat := (s.data.toList.take k).count c
theorem get_data (s : ByteArray) (k : Nat) (h : k < s.size) : s.data.toList[k]? = some s[k] := by
  rw [List.getElem?_eq_getElem (by simpa using h)]; rfl
theorem atK_yes {s : ByteArray} {c : UInt8} {k : Nat} (h : k < s.size) (e : s[k] = c) : atK s c (k + 1) = k := by unfold atK; rw [get_data s k h, e, if_pos rfl]
theorem atK_no {s : ByteArray} {c : UInt8} {k : Nat} (h : k < s.size) (e : ¬ s[k] = c) : atK s c (k + 1) = atK s c k := by
  conv => lhs; unfold atK
  rw [get_data s k h, if_neg (fun h => e (by injection h))]
theorem nK_yes {s : ByteArray} {c : UInt8} {k : Nat} (h : k < s.size) (e : s[k] = c) : nK s c (k + 1) = nK s c k + 1 := by
  unfold nK; rw [take_snoc s k h, List.count_append, e]; simp
theorem nK_no {s : ByteArray} {c : UInt8} {k : Nat} (h : k < s.size) (e : ¬ s[k] = c) : nK s c (k + 1) = nK s c k := by
  unfold nK; rw [take_snoc s k h, List.count_append, List.count_cons]
  have : (s[k] == c) = false := beq_eq_false_iff_ne.2 e
  rw [this]; simp
theorem nK_le (s : ByteArray) (c : UInt8) (k : Nat) : nK s c k ≤ k := by
  unfold nK
  have := List.count_le_length (a := c) (l := s.data.toList.take k)
  rw [List.length_take] at this; omega
theorem nK_end (s : ByteArray) (c : UInt8) : nK s c s.size = cn s c := by unfold nK cn; rw [List.take_of_length_le (by simp)]; rfl
theorem atK_one (s : ByteArray) (c : UInt8) : ∀ k, k ≤ s.size → nK s c k = 1 → atK s c k = ix s c
  | 0, _, h => by unfold nK at h; simp at h
  | k + 1, hk, h => by
    have hlt : k < s.size := by omega
    by_cases e : s[k] = c
    · rw [atK_yes hlt e]
      rw [nK_yes hlt e] at h
      have h0 : c ∉ s.data.toList.take k := List.count_eq_zero.1 (show nK s c k = 0 by omega)
      unfold ix
      have hd := drop_at s k hlt
      conv => rhs; rw [← List.take_append_drop k s.data.toList, hd]
      rw [List.idxOf_append, if_neg h0, List.idxOf_cons, e, List.length_take, length_data]
      simp; omega
    · rw [atK_no hlt e]
      rw [nK_no hlt e] at h
      exact atK_one s c k (by omega) h

/-- the tuple of a text, and the number of the error, as the reference has them -/
def rtup (s : ByteArray) : Tup × Int :=
  if ¬ cn s 64 = 1 then (default, 5)
  else if (rpar (s.extract 0 (ix s 64))).2.2.2.1 = true ∧ (rpar (s.extract 0 (ix s 64))).2.2.2.2 = 0 then
    (if (rpar (s.extract (ix s 64 + 1) s.size)).2.2.2.2 = 0 then
      (⟨(rpar (s.extract 0 (ix s 64))).1, (rpar (s.extract 0 (ix s 64))).2.1, (rpar (s.extract 0 (ix s 64))).2.2.1, (rpar (s.extract (ix s 64 + 1) s.size)).1, (rpar (s.extract (ix s 64 + 1) s.size)).2.1, (rpar (s.extract (ix s 64 + 1) s.size)).2.2.1⟩, 0)
    else (default, (rpar (s.extract (ix s 64 + 1) s.size)).2.2.2.2))
  else if (rpar (s.extract 0 (ix s 64))).2.2.2.1 = true then (default, (rpar (s.extract 0 (ix s 64))).2.2.2.2)
  else (default, 5)
theorem err_vals (b : Bool) : err b = 0 ∨ err b = 6 := by cases b <;> simp [err]
theorem rpar_err (s : ByteArray) : (rpar s).2.2.2.2 = 0 ∨ (rpar s).2.2.2.2 = 5 ∨ (rpar s).2.2.2.2 = 6 := by
  unfold rpar
  split
  · exact .inr (.inl rfl)
  · split
    · rcases err_vals (nb (s.extract 0 (ix s 58)) && nb (s.extract (ix s 58 + 1) (ix s 35))) with h | h
      · exact .inl h
      · exact .inr (.inr h)
    · rcases err_vals (nb (s.extract 0 (ix s 58)) && nb (s.extract (ix s 58 + 1) (ix s 35)) && nb (s.extract (ix s 35 + 1) s.size)) with h | h
      · exact .inl h
      · exact .inr (.inr h)
theorem rpar_five (s : ByteArray) (h : (rpar s).2.2.2.2 = 5) : (rpar s).2.2.2.1 = false := by
  unfold rpar at h ⊢
  split
  · rfl
  · split
    · rfl
    · rename_i h1 h2
      rw [if_neg h1, if_neg h2] at h
      rcases err_vals (nb (s.extract 0 (ix s 58)) && nb (s.extract (ix s 58 + 1) (ix s 35)) && nb (s.extract (ix s 35 + 1) s.size)) with e | e
      · rw [e] at h; simp at h
      · rw [e] at h; simp at h
theorem rparse_v (s a b c : ByteArray) (h : Bool) (e : Int) (w : World) (hs : s.size ≤ maxLen) (hv : rpar s = (a, b, c, h, e)) :
    Calls Try.prog 81 #[.string s] w fun r w' => r = .returned (.tuple #[.agg #[.string a, .string b], .string c, .bool h, .int .i64 e]) ∧ Below w.heap.size w w' := by
  have q := rparse s w hs; unfold RParRet at q; rw [hv] at q; exact q

def RTupRet (s : ByteArray) (w : World) (e : Ending) (w' : World) : Prop := e = .returned (.tuple #[val (rtup s).1, .int .i64 (rtup s).2]) ∧ Below w.heap.size w w'
theorem default_val : val default = .agg #[.string ⟨#[]⟩, .string ⟨#[]⟩, .string ⟨#[]⟩, .string ⟨#[]⟩, .string ⟨#[]⟩, .string ⟨#[]⟩] := rfl

set_option maxRecDepth 100000 in
set_option maxHeartbeats 8000000 in
theorem rtparse (s : ByteArray) (w : World) (hs : s.size ≤ maxLen) :
    Calls Try.prog 49 #[.string s] w (RTupRet s w) := by
  have hs2 := hid hs
  unfold maxLen at hs
  go_enter Try.func49, Try.ntmps49
  go_wp2
  go_loop [4, 5, 6] (fun a n i => ∃ k : Nat, k ≤ s.size ∧ a = .int .i64 (atK s 64 k : Nat) ∧ n = .int .i64 (nK s 64 k : Nat) ∧ i = .int .i64 k) (fun _ _ i => s.size - (intOf i).toNat)
  case atStart => exact ⟨0, Nat.zero_le _, rfl, by unfold nK; simp, rfl⟩
  case round =>
    obtain ⟨k, hk, rfl, rfl, rfl⟩ := hrel
    have hnk := nK_le s 64 k
    by_cases hlt : k < s.size
    · by_cases he : s[k] = 64
      · have hq : ((s[k].toNat : Int) == 64) = true := by rw [he]; rfl
        have H1 := hid (atK_yes hlt he)
        have H2 := hid (nK_yes hlt he)
        clear he
        go_wp2
        go_round
        case rel => exact ⟨k + 1, by omega, int_eq (by rw [H1.out]), int_eq (by rw [H2.out]; omega), by go_num⟩
        case measure => simp [intOf]; try omega
      · have hq : ((s[k].toNat : Int) == 64) = false := beq_eq_false_iff_ne.2 fun e => he (UInt8.toNat_inj.1 (by show s[k].toNat = 64; omega))
        have H1 := hid (atK_no hlt he)
        have H2 := hid (nK_no hlt he)
        clear he
        go_wp2
        go_round
        case rel => exact ⟨k + 1, by omega, int_eq (by rw [H1.out]), int_eq (by rw [H2.out]), by go_num⟩
        case measure => simp [intOf]; try omega
    · obtain rfl : k = s.size := by omega
      have hn := nK_end s 64
      by_cases h1 : cn s 64 = 1
      · obtain ⟨i, hi⟩ : ∃ i, ix s 64 = i := ⟨_, rfl⟩
        have hat : atK s 64 s.size = i := (atK_one s 64 s.size (Nat.le_refl _) (by rw [hn, h1])).trans hi
        have hil : i < s.size := by rw [← hi]; exact ix_lt (by omega)
        obtain ⟨⟨a, b, c, h, e⟩, hg⟩ : ∃ x, rpar (s.extract 0 i) = x := ⟨_, rfl⟩
        obtain ⟨⟨a', b', c', h', e'⟩, hu⟩ : ∃ x, rpar (s.extract (i + 1) s.size) = x := ⟨_, rfl⟩
        have hev := rpar_err (s.extract 0 i)
        have huv := rpar_err (s.extract (i + 1) s.size)
        have h5 := rpar_five (s.extract 0 i)
        rw [hg] at hev h5
        rw [hu] at huv
        have F : Hid (rtup s = if h = true ∧ e = 0 then (if e' = 0 then (⟨a, b, c, a', b', c'⟩, 0) else (default, e')) else if h = true then (default, e) else (default, 5)) := by
          show _ = _; unfold rtup; rw [h1, hi, hg, hu, if_neg (by decide)]
        have Z1 : Hid ((s.extract 0 i).size ≤ maxLen) := by show _ ≤ _; unfold maxLen; simp [ByteArray.size_extract]; omega
        have Z2 : Hid ((s.extract (i + 1) s.size).size ≤ maxLen) := by show _ ≤ _; unfold maxLen; simp [ByteArray.size_extract]; omega
        have HG := hid hg; clear hg
        have HU := hid hu; clear hu
        rw [hn, h1]
        rw [hat]
        have b1 : (0 : Int) ≤ (i : Int) := by omega
        have b2 : (i : Int) < (s.size : Int) := by omega
        have b3 : (i : Int) + 1 ≤ (s.size : Int) := by omega
        have b4 : (0 : Int) ≤ (i : Int) + 1 := by omega
        have e1 : IntKind.i64.wrap ((i : Int) + 1) = (i : Int) + 1 := IntWalk.i64_in _ (by omega)
        have e2 : ((i : Int) + 1).toNat = i + 1 := by omega
        have H5 := hid h5; clear h5
        clear hn hat h1 hi hnk
        simp only at hev huv
        go_wp2_with fail
        refine (rparse_v _ a b c h e _ Z1.out HG.out).mono ?_
        rintro r w1 ⟨rfl, hw1⟩
        have hz1 : w.heap.size < w1.heap.size := by have := hw1.size; simp at this; omega
        have own := own_cells hw1 w.heap.size (by simp)
        have xc0 : w1.cell? ⟨w.heap.size, 0, none⟩ = some (.string ⟨#[]⟩) := (own 0).1.trans (by go_simp)
        have xf0 : w1.frozen? ⟨w.heap.size, 0, none⟩ = false := (own 0).2.trans (by go_simp)
        have xc1 : w1.cell? ⟨w.heap.size, 1, none⟩ = some (.string ⟨#[]⟩) := (own 1).1.trans (by go_simp)
        have xf1 : w1.frozen? ⟨w.heap.size, 1, none⟩ = false := (own 1).2.trans (by go_simp)
        have xc2 : w1.cell? ⟨w.heap.size, 2, none⟩ = some (.string ⟨#[]⟩) := (own 2).1.trans (by go_simp)
        have xf2 : w1.frozen? ⟨w.heap.size, 2, none⟩ = false := (own 2).2.trans (by go_simp)
        have xc3 : w1.cell? ⟨w.heap.size, 3, none⟩ = some (.string ⟨#[]⟩) := (own 3).1.trans (by go_simp)
        have xf3 : w1.frozen? ⟨w.heap.size, 3, none⟩ = false := (own 3).2.trans (by go_simp)
        have xc4 : w1.cell? ⟨w.heap.size, 4, none⟩ = some (.string ⟨#[]⟩) := (own 4).1.trans (by go_simp)
        have xf4 : w1.frozen? ⟨w.heap.size, 4, none⟩ = false := (own 4).2.trans (by go_simp)
        have xc5 : w1.cell? ⟨w.heap.size, 5, none⟩ = some (.string ⟨#[]⟩) := (own 5).1.trans (by go_simp)
        have xf5 : w1.frozen? ⟨w.heap.size, 5, none⟩ = false := (own 5).2.trans (by go_simp)
        clear own
        by_cases hgo : h = true ∧ e = 0
        · obtain ⟨rfl, rfl⟩ := hgo
          clear hev H5
          go_wp2_with fail
          refine (rparse_v _ a' b' c' h' e' _ Z2.out HU.out).mono ?_
          rintro r w2 ⟨rfl, hw2⟩
          have hz2 : w1.heap.size < w2.heap.size := by have := hw2.size; simp at this; omega
          have hz3 : w.heap.size < w2.heap.size := by omega
          have own := own_cells hw2 w.heap.size (by simp; omega)
          have yc0 : w2.cell? ⟨w.heap.size, 0, none⟩ = some (.string ⟨#[]⟩) := (own 0).1.trans (by go_simp)
          have yf0 : w2.frozen? ⟨w.heap.size, 0, none⟩ = false := (own 0).2.trans (by go_simp)
          have yc1 : w2.cell? ⟨w.heap.size, 1, none⟩ = some (.string ⟨#[]⟩) := (own 1).1.trans (by go_simp)
          have yf1 : w2.frozen? ⟨w.heap.size, 1, none⟩ = false := (own 1).2.trans (by go_simp)
          have yc2 : w2.cell? ⟨w.heap.size, 2, none⟩ = some (.string ⟨#[]⟩) := (own 2).1.trans (by go_simp)
          have yf2 : w2.frozen? ⟨w.heap.size, 2, none⟩ = false := (own 2).2.trans (by go_simp)
          have yc3 : w2.cell? ⟨w.heap.size, 3, none⟩ = some (.string ⟨#[]⟩) := (own 3).1.trans (by go_simp)
          have yf3 : w2.frozen? ⟨w.heap.size, 3, none⟩ = false := (own 3).2.trans (by go_simp)
          have yc4 : w2.cell? ⟨w.heap.size, 4, none⟩ = some (.string ⟨#[]⟩) := (own 4).1.trans (by go_simp)
          have yf4 : w2.frozen? ⟨w.heap.size, 4, none⟩ = false := (own 4).2.trans (by go_simp)
          have yc5 : w2.cell? ⟨w.heap.size, 5, none⟩ = some (.string ⟨#[]⟩) := (own 5).1.trans (by go_simp)
          have yf5 : w2.frozen? ⟨w.heap.size, 5, none⟩ = false := (own 5).2.trans (by go_simp)
          clear own
          have own := own_cells hw2 w1.heap.size (by simp)
          have zc0 : w2.cell? ⟨w1.heap.size, 0, none⟩ = some (.string a) := (own 0).1.trans (by go_simp)
          have zc1 : w2.cell? ⟨w1.heap.size, 1, none⟩ = some (.string b) := (own 1).1.trans (by go_simp)
          clear own
          have hB2 : Below w.heap.size w w2 := g_trans (g_alloc (g_trans (g_alloc g_refl _) hw1) _) hw2
          clear xc0 xc1 xc2 xc3 xc4 xc5 xf0 xf1 xf2 xf3 xf4 xf5 hw1 hw2
          rcases huv with rfl | rfl | rfl
          · go_wp2
            refine bodyPost_ret (v := .tuple #[.agg #[.string a, .string b, .string c, .string a', .string b', .string c'], .int .i64 0]) (by simp [results, Try.results49, go_sem, *]) rfl ⟨by rw [F.out]; rfl, ?_⟩
            repeat (first | (with_reducible refine g_alloc ?_ _) | (with_reducible refine g_set ?_ (Nat.le_refl _) _))
            exact hB2
          · go_wp2
            refine bodyPost_ret (v := .tuple #[.agg #[.string ⟨#[]⟩, .string ⟨#[]⟩, .string ⟨#[]⟩, .string ⟨#[]⟩, .string ⟨#[]⟩, .string ⟨#[]⟩], .int .i64 5]) (by simp [results, Try.results49, go_sem, *]) rfl ⟨by rw [F.out]; rfl, ?_⟩
            repeat (first | (with_reducible refine g_alloc ?_ _) | (with_reducible refine g_set ?_ (Nat.le_refl _) _))
            exact hB2
          · go_wp2
            refine bodyPost_ret (v := .tuple #[.agg #[.string ⟨#[]⟩, .string ⟨#[]⟩, .string ⟨#[]⟩, .string ⟨#[]⟩, .string ⟨#[]⟩, .string ⟨#[]⟩], .int .i64 6]) (by simp [results, Try.results49, go_sem, *]) rfl ⟨by rw [F.out]; rfl, ?_⟩
            repeat (first | (with_reducible refine g_alloc ?_ _) | (with_reducible refine g_set ?_ (Nat.le_refl _) _))
            exact hB2
        · have hbad : (h = true ∧ e = 6) ∨ (h = false ∧ (e = 0 ∨ e = 5 ∨ e = 6)) := by
            cases h
            · exact .inr ⟨rfl, hev⟩
            · refine .inl ⟨rfl, ?_⟩
              rcases hev with h0 | h0 | h0
              · exact absurd ⟨rfl, h0⟩ hgo
              · have := H5.out h0; cases this
              · exact h0
          clear hgo hev huv
          rcases hbad with ⟨rfl, rfl⟩ | ⟨rfl, rfl | rfl | rfl⟩
          · go_wp2
            refine bodyPost_ret (v := .tuple #[.agg #[.string ⟨#[]⟩, .string ⟨#[]⟩, .string ⟨#[]⟩, .string ⟨#[]⟩, .string ⟨#[]⟩, .string ⟨#[]⟩], .int .i64 6]) (by simp [results, Try.results49, go_sem, *]) rfl ⟨by rw [F.out]; rfl, ?_⟩
            repeat (first | (with_reducible refine g_alloc ?_ _) | (with_reducible refine g_set ?_ (Nat.le_refl _) _))
            exact g_trans (g_alloc g_refl _) hw1
          · go_wp2
            refine bodyPost_ret (v := .tuple #[.agg #[.string ⟨#[]⟩, .string ⟨#[]⟩, .string ⟨#[]⟩, .string ⟨#[]⟩, .string ⟨#[]⟩, .string ⟨#[]⟩], .int .i64 5]) (by simp [results, Try.results49, go_sem, *]) rfl ⟨by rw [F.out]; rfl, ?_⟩
            repeat (first | (with_reducible refine g_alloc ?_ _) | (with_reducible refine g_set ?_ (Nat.le_refl _) _))
            exact g_trans (g_alloc g_refl _) hw1
          · go_wp2
            refine bodyPost_ret (v := .tuple #[.agg #[.string ⟨#[]⟩, .string ⟨#[]⟩, .string ⟨#[]⟩, .string ⟨#[]⟩, .string ⟨#[]⟩, .string ⟨#[]⟩], .int .i64 5]) (by simp [results, Try.results49, go_sem, *]) rfl ⟨by rw [F.out]; rfl, ?_⟩
            repeat (first | (with_reducible refine g_alloc ?_ _) | (with_reducible refine g_set ?_ (Nat.le_refl _) _))
            exact g_trans (g_alloc g_refl _) hw1
          · go_wp2
            refine bodyPost_ret (v := .tuple #[.agg #[.string ⟨#[]⟩, .string ⟨#[]⟩, .string ⟨#[]⟩, .string ⟨#[]⟩, .string ⟨#[]⟩, .string ⟨#[]⟩], .int .i64 5]) (by simp [results, Try.results49, go_sem, *]) rfl ⟨by rw [F.out]; rfl, ?_⟩
            repeat (first | (with_reducible refine g_alloc ?_ _) | (with_reducible refine g_set ?_ (Nat.le_refl _) _))
            exact g_trans (g_alloc g_refl _) hw1
      · have F : Hid (rtup s = (default, 5)) := by show _ = _; unfold rtup; rw [if_pos h1]
        have h2 : ((nK s 64 s.size : Int) == 1) = false := beq_eq_false_iff_ne.2 (by omega)
        clear hn h1 hnk
        go_wp2
        refine bodyPost_ret (v := .tuple #[.agg #[.string ⟨#[]⟩, .string ⟨#[]⟩, .string ⟨#[]⟩, .string ⟨#[]⟩, .string ⟨#[]⟩, .string ⟨#[]⟩], .int .i64 5]) (by simp [results, Try.results49, go_sem, *]) rfl ⟨by rw [F.out]; rfl, ?_⟩
        repeat (first | (with_reducible refine g_alloc ?_ _) | (with_reducible refine g_set ?_ (Nat.le_refl _) _))
        exact g_refl

end Go.Proofs.Ytgfgfggoofjeeaa
