/-
  THE CONTRACTS of the reference's places and part.
  THE CONTRACT of the reference's Parse of filters: what the program's Parse gives.
  THE CONTRACT of the reference's Parse of filters: the fields.
  THE CONTRACT of the reference's Parse of filters: whole.
-/
import Derived.Test.YtgfgfggoofjeeaaFPar
import Derived.BigQuiet
namespace Go.Proofs.Ytgfgfggoofjeeaa
open Go.RowKit Go.Sort

/-- a list of numbers of the call's own -/
def ownI (l : List Nat) : List Value := l.map (fun i : Nat => Value.int .i64 (i : Int))
def OwnI (w : World) (base : Nat) (v : Value) (l : List Nat) : Prop := w.ownsRow base 3 1 v l.length (ownI l)
theorem OwnI.nil (w : World) (base : Nat) : OwnI w base (.slice none 0 0) [] := World.ownsRow_nil _ _ _ _
theorem infoI : (Try.prog.info? 3).map (fun i => (i.zero, i.size, i.bytes)) = some (some (.int .i64 0), 1, 8) := by kernel_rfl
theorem one_int (y : Nat) : ∀ u ∈ [Value.int .i64 y], u.oneCell' = true := fun u hu => by simp at hu; subst hu; rfl
theorem run_appI (w : World) (base : Nat) (ty : TypeId) (v : Value) (l : List Nat) (hown : OwnI w base v l) (g c : Nat) (y : Nat)
    (hy : w.cell? ⟨g, 0, none⟩ = some (.int .i64 y)) (hn : l.length + 1 ≤ 100000) (hbase : base ≤ w.heap.size) :
    ∃ v' w', (Builtin.append_ #[148, 148] ty #[v, .slice (some ⟨g, 0, none⟩) 1 c]).run Try.prog w = .ok v' w' ∧ OwnI w' base v' (l ++ [y]) ∧ w.grownBy w' v.ownBlock ∧ w.drawn ≤ w'.drawn := by
  obtain ⟨i0, hi, hz0, hz1, hz2⟩ := info_parts infoI
  have hc : ∀ j u, ([Value.int .i64 y] : List Value)[j]? = some u → w.cell? ((⟨g, 0, none⟩ : Addr).add j) = some u := fun j u hu => by
    match j, hu with
    | 0, hu => simp at hu; subst hu; exact hy
    | j + 1, hu => simp at hu
  obtain ⟨v', w', h1, h2, h3, _, h5⟩ := run_append_own_at (P := Try.prog) w base 148 ty 3 i0 _ 1 8 Try.underlying148 hi hz0 hz1 hz2 rfl (by decide) v l.length (ownI l) hown ⟨g, 0, none⟩ 1 c [.int .i64 y] rfl hc (one_int y) (by unfold maxLen; omega) (by omega) hbase
  refine ⟨v', w', h1, ?_, h3, ?_⟩
  · unfold OwnI ownI at *
    rw [List.length_append, List.map_append]; exact h2
  · exact app_drawn (P := Try.prog) w base 148 ty 3 i0 _ Try.underlying148 hi hz0 v l.length (ownI l) (by rw [hz1]; exact hown) ⟨g, 0, none⟩ 1 c [.int .i64 y] (by rw [hz1]; rfl) hc (one_int y) (by omega) (by unfold maxLen; omega) (by rw [hz2]; omega) h1
theorem wp_appI {ops : Array Oper} {rest : List Oper} {o : Oper} {a : Act} {w : World} {Q : Exit → Act → World → Prop} (s x : Operand) (hgd : o.guard = none)
    (ho : o.op = .call { callee := .builtin .append, args := #[s, x], argTypes := #[148, 148] })
    (base : Nat) (v : Value) (l : List Nat) (g c : Nat) (y : Nat) (hs : a.eval s = v) (hx : a.eval x = .slice (some ⟨g, 0, none⟩) 1 c) (hown : OwnI w base v l)
    (hy : w.cell? ⟨g, 0, none⟩ = some (.int .i64 y)) (hn : l.length + 1 ≤ 100000) (hbase : base ≤ w.heap.size)
    (h : ∀ v' w', OwnI w' base v' (l ++ [y]) → w.grownBy w' v.ownBlock → w.drawn ≤ w'.drawn → wpList Try.prog ops Q rest (a.put o.dst v') w') : wpList Try.prog ops Q (o :: rest) a w := by
  obtain ⟨v', w', hr, h2, h3, h4⟩ := run_appI w base o.type v l hown g c y hy hn hbase
  refine wpList_plain hgd fun K hK => ?_
  unfold Oper.wp execOp
  simp only [ho, resolve, invoke, builtin, Sem.run_bind, Sem.run_pure, Result.andThen_ok, List.map_toArray, List.map_cons, List.map_nil, hs, hx, hr]
  exact hK _ _ (h v' w' h2 h3 h4)
theorem OwnI.lt {w : World} {base : Nat} {v : Value} {l : List Nat} (h : OwnI w base v l) : ∀ k, v.ownBlock = some k → base ≤ k ∧ k < w.heap.size := World.ownsRow.lt h
theorem OwnI.below {w w' : World} {base : Nat} {v : Value} {l : List Nat} (h : OwnI w base v l) (hb : Below w.heap.size w w') : OwnI w' base v l := by
  refine ⟨h.1, ?_⟩
  rcases h.2 with hn | ⟨g, cap, cur, rfl, h1, hg, rest⟩
  · exact .inl hn
  · exact .inr ⟨g, cap, cur, rfl, h1, (hb.block g (OwnI.lt (w := w) (base := base) (v := .slice (some ⟨g, 0, none⟩) l.length cap) (l := l) h g rfl).2).trans hg, rest⟩
/-- as a slice: its length, and what its first cell holds -/
theorem OwnI.form {w : World} {base : Nat} {v : Value} {l : List Nat} (h : OwnI w base v l) :
    (v = .slice none 0 0 ∧ l = []) ∨ ∃ g cap, v = .slice (some ⟨g, 0, none⟩) l.length cap ∧ g < w.heap.size ∧ ∀ y r, l = y :: r → w.cell? ⟨g, 0, none⟩ = some (.int .i64 y) := by
  rcases h.2 with ⟨rfl, hn⟩ | ⟨g, cap, cur, rfl, hb, hg, hc', hm, hsz, ht⟩
  · exact .inl ⟨rfl, List.eq_nil_of_length_eq_zero hn⟩
  · refine .inr ⟨g, cap, rfl, (OwnI.lt (w := w) (base := base) (v := .slice (some ⟨g, 0, none⟩) l.length cap) (l := l) h g rfl).2, fun y r e => ?_⟩
    have h1 := World.ownsRow.cellAt h 0 (by rw [e]; simp)
    rw [h1, e]; rfl

theorem idx_first (c : UInt8) : ∀ (l : List UInt8) (k : Nat) (h : k < l.length), l[k] = c → (l.take k).count c = 0 → l.idxOf c = k
  | [], k, h, _, _ => absurd h (by simp)
  | x :: r, 0, _, e, _ => by simp at e; subst e; simp
  | x :: r, k + 1, h, e, hz => by
    rw [List.take_succ_cons, List.count_cons] at hz
    have hx : ¬ x = c := fun e => by subst e; simp at hz
    have := idx_first c r k (by simpa using h) (by simpa using e) (by omega)
    rw [List.idxOf_cons, this, beq_eq_false_iff_ne.2 hx]; rfl
/-- what the loop of places holds -/
def PL (s : ByteArray) (c : UInt8) (k : Nat) (l : List Nat) : Prop := l.length = (s.data.toList.take k).count c ∧ ∀ y r, l = y :: r → y = ix s c
theorem PL.yes {s : ByteArray} {c : UInt8} {k : Nat} {l : List Nat} (hk : k < s.size) (h : PL s c k l) (e : s[k] = c) : PL s c (k + 1) (l ++ [k]) := by
  refine ⟨?_, fun y r hl => ?_⟩
  · rw [take_snoc s k hk, List.count_append, List.length_append, h.1, e]; simp
  · match l, h, hl with
    | [], h, hl =>
      simp at hl
      rw [← hl.1]
      exact (idx_first c s.data.toList k (by simpa using hk) e h.1.symm).symm
    | z :: t, h, hl =>
      simp at hl
      rw [← hl.1]; exact h.2 z t rfl
theorem PL.no {s : ByteArray} {c : UInt8} {k : Nat} {l : List Nat} (hk : k < s.size) (h : PL s c k l) (e : ¬ s[k] = c) : PL s c (k + 1) l := by
  refine ⟨?_, h.2⟩
  rw [take_snoc s k hk, List.count_append, h.1]
  have : ([s[k]] : List UInt8).count c = 0 := by rw [List.count_eq_zero]; simp; exact fun e2 => e e2.symm
  omega
theorem PL.len {s : ByteArray} {c : UInt8} {k : Nat} {l : List Nat} (h : PL s c k l) (hk : k ≤ s.size) : l.length ≤ k := by
  rw [h.1]; exact Nat.le_trans (List.count_le_length) (by simp; omega)
/-- what places leaves: so many, and the first one -/
def PlcRet (s : ByteArray) (c : UInt8) (w : World) (e : Ending) (w' : World) : Prop :=
  ∃ A cap, e = .returned (.slice A (cn s c) cap) ∧ (0 < cn s c → ∃ g, A = some ⟨g, 0, none⟩ ∧ g < w'.heap.size ∧ w'.cell? ⟨g, 0, none⟩ = some (.int .i64 (ix s c))) ∧ Grew w w'
set_option maxHeartbeats 1000000 in
theorem places_any (s : ByteArray) (c : UInt8) (n : Int) (w : World) (hc : (c.toNat : Int) = n) (hs : s.size ≤ 90000) :
    Calls Try.prog 95 #[.string s, .int .u8 n] w (PlcRet s c w) := by
  subst hc
  go_enter Try.func95, Try.ntmps95
  go_wp2
  go_loopw [5, 6] (fun v i wr => ∃ k l, k ≤ s.size ∧ i = .int .i64 (k : Nat) ∧ OwnI wr w.heap.size v l ∧ PL s c k l ∧ Grew w wr) (fun _ i _ => s.size - (intOf i).toNat)
  case atStart => exact ⟨0, [], Nat.zero_le _, rfl, OwnI.nil _ _, ⟨by simp, fun y r h => by cases h⟩, gw_refl⟩
  case round =>
    obtain ⟨k, l, hk, rfl, hown, hpl, hw⟩ := hrel
    have hlen := hpl.len hk
    have HO := hid hown; clear hown
    have HP := hid hpl; clear hpl
    by_cases hlt : k < s.size
    · by_cases he : s[k] = c
      · have hq : ((s[k].toNat : Int) == c.toNat) = true := by rw [he]; simp
        have HE := hid he; clear he
        have hz := hw.size
        go_wp2_with (at_builtin; refine wp_appI _ _ rfl rfl w.heap.size _ l wr.heap.size 1 k rfl rfl (HO.out.below (g_alloc g_refl _)) (by go_simp) (by omega) (by simp; omega) ?_)
        intro v5 w5 hown5 hg5 hd5
        have hw5 : Grew w w5 := gw_grown (gw_alloc hw _) hg5 hd5 fun g hg => (HO.out.lt g hg).1
        go_wp2
        go_roundw
        case rel => exact ⟨k + 1, l ++ [k], by omega, by go_num, hown5, HP.out.yes hlt HE.out, hw5⟩
        case measure => simp [intOf]; omega
      · have hq : ((s[k].toNat : Int) == c.toNat) = false := beq_eq_false_iff_ne.2 fun e => he (UInt8.toNat_inj.1 (by omega))
        have HE := hid he; clear he
        go_wp2
        go_roundw
        case rel => exact ⟨k + 1, l, by omega, by go_num, HO.out, HP.out.no hlt HE.out, hw⟩
        case measure => simp [intOf]; omega
    · obtain rfl : k = s.size := by omega
      have hcn : l.length = cn s c := by rw [HP.out.1, List.take_of_length_le (by simp)]; rfl
      go_wp2
      go_ret
      rcases HO.out.form with ⟨rfl, hl⟩ | ⟨g, cap, rfl, hg, hf⟩
      · refine ⟨none, 0, ?_, fun h => ?_, hw⟩
        · rw [← hcn, hl]; rfl
        · rw [← hcn, hl] at h; simp at h
      · refine ⟨_, cap, by rw [hcn]; rfl, fun h => ⟨g, rfl, hg, ?_⟩, hw⟩
        match l, hcn, hf, HP.out with
        | [], hcn, _, _ => rw [← hcn] at h; simp at h
        | y :: r, _, hf, hp => rw [← hp.2 y r rfl]; exact hf y r rfl
theorem part_any (s : ByteArray) (w : World) (hs : s.size ≤ maxLen) :
    Calls Try.prog 96 #[.string s] w fun r w' => r = .returned (.tuple #[.string (star s), .int .i64 (err (okS s))]) ∧ w = w' := by
  rcases st_cases s with q | ⟨q, nq⟩
  · have hq : (s.toList == [42]) = true := by rw [q, ByteArray.toList_eq]; rfl
    have HC : Hid (star s = ⟨#[]⟩ ∧ okS s = true) := hid (by rw [q]; exact ⟨star_y, okS_y⟩)
    clear q
    go_enter Try.func96, Try.ntmps96
    go_wp2
    go_ret2
    exact ⟨by rw [HC.out.1, HC.out.2]; rfl, rfl⟩
  · have HC : Hid (star s = s ∧ okS s = nb s) := hid ⟨star_n nq, by unfold okS; rw [decide_eq_false nq]; rfl⟩
    clear nq
    go_enter Try.func96, Try.ntmps96
    go_wp2_with fail
    refine (rcheck_nb s _ hs).mono ?_
    rintro r w' ⟨rfl, rfl⟩
    go_wp2
    go_ret2
    exact ⟨by rw [HC.out.1, HC.out.2]; rfl, rfl⟩
end Go.Proofs.Ytgfgfggoofjeeaa
namespace Go.Proofs.Ytgfgfggoofjeeaa
open Go.RowKit Go.Sort
attribute [local go_sem] drewN_setCell drewN_alloc
theorem rparse_v2 (s a b c : ByteArray) (e : Int) (w : World) (hs : s.size ≤ maxLen) (h : parseF s 0 1 = (a, b, c, e)) :
    Calls Try.prog 81 #[.string s] w fun r w' => (∃ x y z u, r = .returned (.tuple #[.agg #[.string x, .string y], .string z, .bool u, .int .i64 e]) ∧ (e = 0 → x = a ∧ y = b ∧ z = c)) ∧ Below w.heap.size w w' := by
  obtain ⟨⟨x, y, z, u, n⟩, hq⟩ : ∃ t, rpar s = t := ⟨_, rfl⟩
  have q := parse_eq s 0 (.inl rfl)
  rw [hq, h] at q
  refine (rparse_v s x y z u n w hs hq).mono fun r w' ⟨h1, h2⟩ => ⟨⟨x, y, z, u, ?_, ?_⟩, h2⟩
  · rw [h1]
    rw [if_neg (by omega)] at q
    simp only at q
    by_cases hn : n = 0
    · rw [if_pos hn] at q; injection q with _ q; injection q with _ q; injection q with _ q; rw [q, hn]
    · rw [if_neg hn] at q; injection q with _ q; injection q with _ q; injection q with _ q; rw [q]
  · intro he
    rw [if_neg (by omega)] at q
    simp only at q
    by_cases hn : n = 0
    · rw [if_pos hn] at q; injection q with q1 q; injection q with q2 q; injection q with q3 q; exact ⟨q1.symm, q2.symm, q3.symm⟩
    · rw [if_neg hn] at q; injection q with _ q; injection q with _ q; injection q with _ q; exact absurd (q.symm.trans he) hn
theorem part_v (s t : ByteArray) (u : Bool) (w : World) (hs : s.size ≤ maxLen) (ht : star s = t) (hu : okS s = u) :
    Calls Try.prog 96 #[.string s] w fun r w' => r = .returned (.tuple #[.string t, .int .i64 (err u)]) ∧ w = w' := by
  have q := part_any s w hs; rw [ht, hu] at q; exact q

set_option maxRecDepth 20000 in
set_option maxHeartbeats 400000 in
theorem rp_many (s : ByteArray) (n c58 c35 i : Nat) (w : World) (hs : s.size ≤ 90000) (h64 : cn s 64 = n) (hi : ix s 64 = i) (hil : i < s.size) (hn : 1 < n) (h58 : cn (s.extract 0 i) 58 = c58) (h35 : cn (s.extract 0 i) 35 = c35) (hk : fpar s = (zF, 5)) :
    Calls Try.prog 72 #[.string s] w (FParRet s w) := by
  have HK := hid hk; clear hk
  have H58 := hid h58; clear h58
  have H35 := hid h35; clear h35
  have H64 := hid h64; clear h64
  have HI := hid hi; clear hi
  have HS : Hid ((s.extract 0 i).size ≤ 90000) := hid (by simp [ByteArray.size_extract]; omega)
  have b1 : (0 : Int) ≤ (i : Int) := by omega
  have b2 : (i : Int) ≤ (s.size : Int) := by omega
  have hn2 : (1 : Int) < (n : Int) := by omega
  go_enter Try.func72, Try.ntmps72
  go_wp2_with fail
  refine (places_any s 64 64 _ rfl hs).mono ?_
  rintro e0 w1 ⟨A, cap, rfl, hh, hw1⟩
  have HOZ1 : Hid (OZ w1 w.heap.size) := hid (OZ.keep (by simp only [OZ]; exact ⟨by go_simp, by go_simp, by go_simp, by go_simp, by go_simp, by go_simp, by go_simp, by go_simp, by go_simp, by go_simp, by go_simp, by go_simp, by go_simp, by go_simp, by simp⟩) hw1.toBelow)
  have hB1 : Below w.heap.size w w1 := g_trans (g_alloc g_refl _) hw1.toBelow
  rw [H64.out]
  obtain ⟨g0, rfl, hg0, hc0⟩ := hh (by rw [H64.out]; omega)
  rw [HI.out] at hc0
  have HC0 := hid (And.intro hc0 hg0)
  clear hw1 hh
  go_wp2_with fail
  refine (places_any (s.extract 0 i) 58 58 _ rfl HS.out).mono ?_
  rintro e0 w2 ⟨A2, cap2, rfl, hh2, hw2⟩
  have HC02 := hid (And.intro ((own_cells hw2.toBelow _ HC0.out.2 0).1.trans HC0.out.1) (Nat.lt_of_lt_of_le HC0.out.2 hw2.size))
  clear hc0 hg0 HC0
  have HOZ2 := hid (HOZ1.out.keep hw2.toBelow)
  have hB2 := g_trans hB1 hw2.toBelow
  clear hw2 HOZ1 hB1
  rw [H58.out]
  rw [H58.out] at hh2
  go_wp2_with fail
  refine (places_any (s.extract 0 i) 35 35 _ rfl HS.out).mono ?_
  rintro e0 w3 ⟨A3, cap3, rfl, hh3, hw3⟩
  have HC03 := hid (And.intro ((own_cells hw3.toBelow _ HC02.out.2 0).1.trans HC02.out.1) (Nat.lt_of_lt_of_le HC02.out.2 hw3.size))
  clear HC02
  have HOZ3 := hid (HOZ2.out.keep hw3.toBelow)
  have hB3 := g_trans hB2 hw3.toBelow
  clear HOZ2 hB2
  rw [H35.out]
  rw [H35.out] at hh3
  clear hh2 hh3 hw3 HC03
  obtain ⟨o0, o1, o2, o3, o4, o5, o6, u0, u1, u2, u3, u4, u5, u6, u7⟩ := HOZ3.out
  go_wp2_with fail
  go_quiet (fail)
  go_wp2
  (try simp only [Exit.inBlock, Exit.then])
  refine bodyPost_ret (v := .tuple #[.agg #[.string ⟨#[]⟩, .string ⟨#[]⟩, .string ⟨#[]⟩, .string ⟨#[]⟩, .string ⟨#[]⟩, .string ⟨#[]⟩, .bool false], .int .i64 5]) ?_ rfl ?_
  · simp [results, Try.results72, go_sem, *]
  · refine ⟨by rw [HK.out]; rfl, ?_⟩
    repeat (first | (with_reducible refine g_alloc ?_ _) | (with_reducible refine g_drewN ?_ _) | (with_reducible refine g_drew ?_) | (with_reducible refine g_set ?_ (Nat.le_refl _) _))
    with_reducible exact hB3

set_option maxRecDepth 20000 in
set_option maxHeartbeats 400000 in
theorem rp_b58_0 (s : ByteArray) (c58 c35  : Nat) (w : World) (hs : s.size ≤ 90000) (h64 : cn s 64 = 0) (h58 : cn s 58 = c58) (hn : ¬ c58 = 1) (h35 : cn s 35 = c35) (hk : fpar s = (zF, 5)) :
    Calls Try.prog 72 #[.string s] w (FParRet s w) := by
  have HK := hid hk; clear hk
  have H58 := hid h58; clear h58
  have H35 := hid h35; clear h35
  have hn1 : ((c58 : Int) != 1) = true := bne_iff_ne.2 (by omega)
  clear hn
  have H64 := hid h64; clear h64
  have HS := hid hs
  go_enter Try.func72, Try.ntmps72
  go_wp2_with fail
  refine (places_any s 64 64 _ rfl hs).mono ?_
  rintro e0 w1 ⟨A, cap, rfl, hh, hw1⟩
  have HOZ1 : Hid (OZ w1 w.heap.size) := hid (OZ.keep (by simp only [OZ]; exact ⟨by go_simp, by go_simp, by go_simp, by go_simp, by go_simp, by go_simp, by go_simp, by go_simp, by go_simp, by go_simp, by go_simp, by go_simp, by go_simp, by go_simp, by simp⟩) hw1.toBelow)
  have hB1 : Below w.heap.size w w1 := g_trans (g_alloc g_refl _) hw1.toBelow
  rw [H64.out]
  clear hw1 hh
  go_wp2_with fail
  refine (places_any s 58 58 _ rfl HS.out).mono ?_
  rintro e0 w2 ⟨A2, cap2, rfl, hh2, hw2⟩
  have HOZ2 := hid (HOZ1.out.keep hw2.toBelow)
  have hB2 := g_trans hB1 hw2.toBelow
  clear hw2 HOZ1 hB1
  rw [H58.out]
  rw [H58.out] at hh2
  go_wp2_with fail
  refine (places_any s 35 35 _ rfl HS.out).mono ?_
  rintro e0 w3 ⟨A3, cap3, rfl, hh3, hw3⟩
  have HOZ3 := hid (HOZ2.out.keep hw3.toBelow)
  have hB3 := g_trans hB2 hw3.toBelow
  clear HOZ2 hB2
  rw [H35.out]
  rw [H35.out] at hh3
  clear hh2 hh3 hw3 
  obtain ⟨o0, o1, o2, o3, o4, o5, o6, u0, u1, u2, u3, u4, u5, u6, u7⟩ := HOZ3.out
  go_wp2_with fail
  go_quiet (fail)
  go_wp2
  (try simp only [Exit.inBlock, Exit.then])
  refine bodyPost_ret (v := .tuple #[.agg #[.string ⟨#[]⟩, .string ⟨#[]⟩, .string ⟨#[]⟩, .string ⟨#[]⟩, .string ⟨#[]⟩, .string ⟨#[]⟩, .bool false], .int .i64 5]) ?_ rfl ?_
  · simp [results, Try.results72, go_sem, *]
  · refine ⟨by rw [HK.out]; rfl, ?_⟩
    repeat (first | (with_reducible refine g_alloc ?_ _) | (with_reducible refine g_drewN ?_ _) | (with_reducible refine g_drew ?_) | (with_reducible refine g_set ?_ (Nat.le_refl _) _))
    with_reducible exact hB3

set_option maxRecDepth 20000 in
set_option maxHeartbeats 400000 in
theorem rp_b35_0 (s : ByteArray) (c35  : Nat) (w : World) (hs : s.size ≤ 90000) (h64 : cn s 64 = 0) (h58 : cn s 58 = 1) (h35 : cn s 35 = c35) (hn : ¬ c35 = 1) (hk : fpar s = (zF, 5)) :
    Calls Try.prog 72 #[.string s] w (FParRet s w) := by
  have HK := hid hk; clear hk
  have H58 := hid h58; clear h58
  have H35 := hid h35; clear h35
  have hn1 : ¬ (c35 : Int) = 1 := by omega
  clear hn
  have H64 := hid h64; clear h64
  have HS := hid hs
  go_enter Try.func72, Try.ntmps72
  go_wp2_with fail
  refine (places_any s 64 64 _ rfl hs).mono ?_
  rintro e0 w1 ⟨A, cap, rfl, hh, hw1⟩
  have HOZ1 : Hid (OZ w1 w.heap.size) := hid (OZ.keep (by simp only [OZ]; exact ⟨by go_simp, by go_simp, by go_simp, by go_simp, by go_simp, by go_simp, by go_simp, by go_simp, by go_simp, by go_simp, by go_simp, by go_simp, by go_simp, by go_simp, by simp⟩) hw1.toBelow)
  have hB1 : Below w.heap.size w w1 := g_trans (g_alloc g_refl _) hw1.toBelow
  rw [H64.out]
  clear hw1 hh
  go_wp2_with fail
  refine (places_any s 58 58 _ rfl HS.out).mono ?_
  rintro e0 w2 ⟨A2, cap2, rfl, hh2, hw2⟩
  have HOZ2 := hid (HOZ1.out.keep hw2.toBelow)
  have hB2 := g_trans hB1 hw2.toBelow
  clear hw2 HOZ1 hB1
  rw [H58.out]
  rw [H58.out] at hh2
  go_wp2_with fail
  refine (places_any s 35 35 _ rfl HS.out).mono ?_
  rintro e0 w3 ⟨A3, cap3, rfl, hh3, hw3⟩
  have HOZ3 := hid (HOZ2.out.keep hw3.toBelow)
  have hB3 := g_trans hB2 hw3.toBelow
  clear HOZ2 hB2
  rw [H35.out]
  rw [H35.out] at hh3
  clear hh2 hh3 hw3 
  obtain ⟨o0, o1, o2, o3, o4, o5, o6, u0, u1, u2, u3, u4, u5, u6, u7⟩ := HOZ3.out
  go_wp2_with fail
  go_quiet (fail)
  go_wp2
  (try simp only [Exit.inBlock, Exit.then])
  refine bodyPost_ret (v := .tuple #[.agg #[.string ⟨#[]⟩, .string ⟨#[]⟩, .string ⟨#[]⟩, .string ⟨#[]⟩, .string ⟨#[]⟩, .string ⟨#[]⟩, .bool false], .int .i64 5]) ?_ rfl ?_
  · simp [results, Try.results72, go_sem, *]
  · refine ⟨by rw [HK.out]; rfl, ?_⟩
    repeat (first | (with_reducible refine g_alloc ?_ _) | (with_reducible refine g_drewN ?_ _) | (with_reducible refine g_drew ?_) | (with_reducible refine g_set ?_ (Nat.le_refl _) _))
    with_reducible exact hB3

set_option maxRecDepth 20000 in
set_option maxHeartbeats 400000 in
theorem rp_ord_0 (s : ByteArray) (j m  : Nat) (w : World) (hs : s.size ≤ 90000) (h64 : cn s 64 = 0) (h58 : cn s 58 = 1) (h35 : cn s 35 = 1) (hj : ix s 58 = j) (hm : ix s 35 = m) (hjm : m < j) (hk : fpar s = (zF, 5)) :
    Calls Try.prog 72 #[.string s] w (FParRet s w) := by
  have HK := hid hk; clear hk
  have H58 := hid h58; clear h58
  have H35 := hid h35; clear h35
  have HJ := hid hj; clear hj
  have HM := hid hm; clear hm
  have hjm1 : (m : Int) < (j : Int) := by omega
  have H64 := hid h64; clear h64
  have HS := hid hs
  go_enter Try.func72, Try.ntmps72
  go_wp2_with fail
  refine (places_any s 64 64 _ rfl hs).mono ?_
  rintro e0 w1 ⟨A, cap, rfl, hh, hw1⟩
  have HOZ1 : Hid (OZ w1 w.heap.size) := hid (OZ.keep (by simp only [OZ]; exact ⟨by go_simp, by go_simp, by go_simp, by go_simp, by go_simp, by go_simp, by go_simp, by go_simp, by go_simp, by go_simp, by go_simp, by go_simp, by go_simp, by go_simp, by simp⟩) hw1.toBelow)
  have hB1 : Below w.heap.size w w1 := g_trans (g_alloc g_refl _) hw1.toBelow
  rw [H64.out]
  clear hw1 hh
  go_wp2_with fail
  refine (places_any s 58 58 _ rfl HS.out).mono ?_
  rintro e0 w2 ⟨A2, cap2, rfl, hh2, hw2⟩
  have HOZ2 := hid (HOZ1.out.keep hw2.toBelow)
  have hB2 := g_trans hB1 hw2.toBelow
  clear hw2 HOZ1 hB1
  rw [H58.out]
  rw [H58.out] at hh2
  go_wp2_with fail
  refine (places_any s 35 35 _ rfl HS.out).mono ?_
  rintro e0 w3 ⟨A3, cap3, rfl, hh3, hw3⟩
  have HOZ3 := hid (HOZ2.out.keep hw3.toBelow)
  have hB3 := g_trans hB2 hw3.toBelow
  clear HOZ2 hB2
  rw [H35.out]
  rw [H35.out] at hh3
  obtain ⟨g2, rfl, hg2, hc2⟩ := hh2 (by omega)
  obtain ⟨g3, rfl, hg3, hc3⟩ := hh3 (by omega)
  rw [HJ.out] at hc2
  rw [HM.out] at hc3
  have hc2' := (own_cells hw3.toBelow _ hg2 0).1.trans hc2
  have hg2' := Nat.lt_of_lt_of_le hg2 hw3.size
  clear hh2 hh3 hw3 hc2 hg2
  
  obtain ⟨o0, o1, o2, o3, o4, o5, o6, u0, u1, u2, u3, u4, u5, u6, u7⟩ := HOZ3.out
  go_wp2_with fail
  go_quiet (fail)
  go_wp2
  (try simp only [Exit.inBlock, Exit.then])
  refine bodyPost_ret (v := .tuple #[.agg #[.string ⟨#[]⟩, .string ⟨#[]⟩, .string ⟨#[]⟩, .string ⟨#[]⟩, .string ⟨#[]⟩, .string ⟨#[]⟩, .bool false], .int .i64 5]) ?_ rfl ?_
  · simp [results, Try.results72, go_sem, *]
  · refine ⟨by rw [HK.out]; rfl, ?_⟩
    repeat (first | (with_reducible refine g_alloc ?_ _) | (with_reducible refine g_drewN ?_ _) | (with_reducible refine g_drew ?_) | (with_reducible refine g_set ?_ (Nat.le_refl _) _))
    with_reducible exact hB3

set_option maxRecDepth 20000 in
set_option maxHeartbeats 400000 in
theorem rp_b58_1 (s : ByteArray) (c58 c35 i : Nat) (w : World) (hs : s.size ≤ 90000) (h64 : cn s 64 = 1) (hi : ix s 64 = i) (hil : i < s.size) (h58 : cn (s.extract 0 i) 58 = c58) (hn : ¬ c58 = 1) (h35 : cn (s.extract 0 i) 35 = c35) (hk : fpar s = (zF, 5)) :
    Calls Try.prog 72 #[.string s] w (FParRet s w) := by
  have HK := hid hk; clear hk
  have H58 := hid h58; clear h58
  have H35 := hid h35; clear h35
  have hn1 : ((c58 : Int) != 1) = true := bne_iff_ne.2 (by omega)
  clear hn
  have H64 := hid h64; clear h64
  have HI := hid hi; clear hi
  have HS : Hid ((s.extract 0 i).size ≤ 90000) := hid (by simp [ByteArray.size_extract]; omega)
  have b1 : (0 : Int) ≤ (i : Int) := by omega
  have b2 : (i : Int) ≤ (s.size : Int) := by omega
  go_enter Try.func72, Try.ntmps72
  go_wp2_with fail
  refine (places_any s 64 64 _ rfl hs).mono ?_
  rintro e0 w1 ⟨A, cap, rfl, hh, hw1⟩
  have HOZ1 : Hid (OZ w1 w.heap.size) := hid (OZ.keep (by simp only [OZ]; exact ⟨by go_simp, by go_simp, by go_simp, by go_simp, by go_simp, by go_simp, by go_simp, by go_simp, by go_simp, by go_simp, by go_simp, by go_simp, by go_simp, by go_simp, by simp⟩) hw1.toBelow)
  have hB1 : Below w.heap.size w w1 := g_trans (g_alloc g_refl _) hw1.toBelow
  rw [H64.out]
  obtain ⟨g0, rfl, hg0, hc0⟩ := hh (by rw [H64.out]; omega)
  rw [HI.out] at hc0
  have HC0 := hid (And.intro hc0 hg0)
  clear hw1 hh
  go_wp2_with fail
  refine (places_any (s.extract 0 i) 58 58 _ rfl HS.out).mono ?_
  rintro e0 w2 ⟨A2, cap2, rfl, hh2, hw2⟩
  have HC02 := hid (And.intro ((own_cells hw2.toBelow _ HC0.out.2 0).1.trans HC0.out.1) (Nat.lt_of_lt_of_le HC0.out.2 hw2.size))
  clear hc0 hg0 HC0
  have HOZ2 := hid (HOZ1.out.keep hw2.toBelow)
  have hB2 := g_trans hB1 hw2.toBelow
  clear hw2 HOZ1 hB1
  rw [H58.out]
  rw [H58.out] at hh2
  go_wp2_with fail
  refine (places_any (s.extract 0 i) 35 35 _ rfl HS.out).mono ?_
  rintro e0 w3 ⟨A3, cap3, rfl, hh3, hw3⟩
  have HC03 := hid (And.intro ((own_cells hw3.toBelow _ HC02.out.2 0).1.trans HC02.out.1) (Nat.lt_of_lt_of_le HC02.out.2 hw3.size))
  clear HC02
  have HOZ3 := hid (HOZ2.out.keep hw3.toBelow)
  have hB3 := g_trans hB2 hw3.toBelow
  clear HOZ2 hB2
  rw [H35.out]
  rw [H35.out] at hh3
  clear hh2 hh3 hw3 HC03
  obtain ⟨o0, o1, o2, o3, o4, o5, o6, u0, u1, u2, u3, u4, u5, u6, u7⟩ := HOZ3.out
  go_wp2_with fail
  go_quiet (fail)
  go_wp2
  (try simp only [Exit.inBlock, Exit.then])
  refine bodyPost_ret (v := .tuple #[.agg #[.string ⟨#[]⟩, .string ⟨#[]⟩, .string ⟨#[]⟩, .string ⟨#[]⟩, .string ⟨#[]⟩, .string ⟨#[]⟩, .bool false], .int .i64 5]) ?_ rfl ?_
  · simp [results, Try.results72, go_sem, *]
  · refine ⟨by rw [HK.out]; rfl, ?_⟩
    repeat (first | (with_reducible refine g_alloc ?_ _) | (with_reducible refine g_drewN ?_ _) | (with_reducible refine g_drew ?_) | (with_reducible refine g_set ?_ (Nat.le_refl _) _))
    with_reducible exact hB3

set_option maxRecDepth 20000 in
set_option maxHeartbeats 400000 in
theorem rp_b35_1 (s : ByteArray) (c35 i : Nat) (w : World) (hs : s.size ≤ 90000) (h64 : cn s 64 = 1) (hi : ix s 64 = i) (hil : i < s.size) (h58 : cn (s.extract 0 i) 58 = 1) (h35 : cn (s.extract 0 i) 35 = c35) (hn : ¬ c35 = 1) (hk : fpar s = (zF, 5)) :
    Calls Try.prog 72 #[.string s] w (FParRet s w) := by
  have HK := hid hk; clear hk
  have H58 := hid h58; clear h58
  have H35 := hid h35; clear h35
  have hn1 : ¬ (c35 : Int) = 1 := by omega
  clear hn
  have H64 := hid h64; clear h64
  have HI := hid hi; clear hi
  have HS : Hid ((s.extract 0 i).size ≤ 90000) := hid (by simp [ByteArray.size_extract]; omega)
  have b1 : (0 : Int) ≤ (i : Int) := by omega
  have b2 : (i : Int) ≤ (s.size : Int) := by omega
  go_enter Try.func72, Try.ntmps72
  go_wp2_with fail
  refine (places_any s 64 64 _ rfl hs).mono ?_
  rintro e0 w1 ⟨A, cap, rfl, hh, hw1⟩
  have HOZ1 : Hid (OZ w1 w.heap.size) := hid (OZ.keep (by simp only [OZ]; exact ⟨by go_simp, by go_simp, by go_simp, by go_simp, by go_simp, by go_simp, by go_simp, by go_simp, by go_simp, by go_simp, by go_simp, by go_simp, by go_simp, by go_simp, by simp⟩) hw1.toBelow)
  have hB1 : Below w.heap.size w w1 := g_trans (g_alloc g_refl _) hw1.toBelow
  rw [H64.out]
  obtain ⟨g0, rfl, hg0, hc0⟩ := hh (by rw [H64.out]; omega)
  rw [HI.out] at hc0
  have HC0 := hid (And.intro hc0 hg0)
  clear hw1 hh
  go_wp2_with fail
  refine (places_any (s.extract 0 i) 58 58 _ rfl HS.out).mono ?_
  rintro e0 w2 ⟨A2, cap2, rfl, hh2, hw2⟩
  have HC02 := hid (And.intro ((own_cells hw2.toBelow _ HC0.out.2 0).1.trans HC0.out.1) (Nat.lt_of_lt_of_le HC0.out.2 hw2.size))
  clear hc0 hg0 HC0
  have HOZ2 := hid (HOZ1.out.keep hw2.toBelow)
  have hB2 := g_trans hB1 hw2.toBelow
  clear hw2 HOZ1 hB1
  rw [H58.out]
  rw [H58.out] at hh2
  go_wp2_with fail
  refine (places_any (s.extract 0 i) 35 35 _ rfl HS.out).mono ?_
  rintro e0 w3 ⟨A3, cap3, rfl, hh3, hw3⟩
  have HC03 := hid (And.intro ((own_cells hw3.toBelow _ HC02.out.2 0).1.trans HC02.out.1) (Nat.lt_of_lt_of_le HC02.out.2 hw3.size))
  clear HC02
  have HOZ3 := hid (HOZ2.out.keep hw3.toBelow)
  have hB3 := g_trans hB2 hw3.toBelow
  clear HOZ2 hB2
  rw [H35.out]
  rw [H35.out] at hh3
  clear hh2 hh3 hw3 HC03
  obtain ⟨o0, o1, o2, o3, o4, o5, o6, u0, u1, u2, u3, u4, u5, u6, u7⟩ := HOZ3.out
  go_wp2_with fail
  go_quiet (fail)
  go_wp2
  (try simp only [Exit.inBlock, Exit.then])
  refine bodyPost_ret (v := .tuple #[.agg #[.string ⟨#[]⟩, .string ⟨#[]⟩, .string ⟨#[]⟩, .string ⟨#[]⟩, .string ⟨#[]⟩, .string ⟨#[]⟩, .bool false], .int .i64 5]) ?_ rfl ?_
  · simp [results, Try.results72, go_sem, *]
  · refine ⟨by rw [HK.out]; rfl, ?_⟩
    repeat (first | (with_reducible refine g_alloc ?_ _) | (with_reducible refine g_drewN ?_ _) | (with_reducible refine g_drew ?_) | (with_reducible refine g_set ?_ (Nat.le_refl _) _))
    with_reducible exact hB3

set_option maxRecDepth 20000 in
set_option maxHeartbeats 400000 in
theorem rp_ord_1 (s : ByteArray) (j m i : Nat) (w : World) (hs : s.size ≤ 90000) (h64 : cn s 64 = 1) (hi : ix s 64 = i) (hil : i < s.size) (h58 : cn (s.extract 0 i) 58 = 1) (h35 : cn (s.extract 0 i) 35 = 1) (hj : ix (s.extract 0 i) 58 = j) (hm : ix (s.extract 0 i) 35 = m) (hjm : m < j) (hk : fpar s = (zF, 5)) :
    Calls Try.prog 72 #[.string s] w (FParRet s w) := by
  have HK := hid hk; clear hk
  have H58 := hid h58; clear h58
  have H35 := hid h35; clear h35
  have HJ := hid hj; clear hj
  have HM := hid hm; clear hm
  have hjm1 : (m : Int) < (j : Int) := by omega
  have H64 := hid h64; clear h64
  have HI := hid hi; clear hi
  have HS : Hid ((s.extract 0 i).size ≤ 90000) := hid (by simp [ByteArray.size_extract]; omega)
  have b1 : (0 : Int) ≤ (i : Int) := by omega
  have b2 : (i : Int) ≤ (s.size : Int) := by omega
  go_enter Try.func72, Try.ntmps72
  go_wp2_with fail
  refine (places_any s 64 64 _ rfl hs).mono ?_
  rintro e0 w1 ⟨A, cap, rfl, hh, hw1⟩
  have HOZ1 : Hid (OZ w1 w.heap.size) := hid (OZ.keep (by simp only [OZ]; exact ⟨by go_simp, by go_simp, by go_simp, by go_simp, by go_simp, by go_simp, by go_simp, by go_simp, by go_simp, by go_simp, by go_simp, by go_simp, by go_simp, by go_simp, by simp⟩) hw1.toBelow)
  have hB1 : Below w.heap.size w w1 := g_trans (g_alloc g_refl _) hw1.toBelow
  rw [H64.out]
  obtain ⟨g0, rfl, hg0, hc0⟩ := hh (by rw [H64.out]; omega)
  rw [HI.out] at hc0
  have HC0 := hid (And.intro hc0 hg0)
  clear hw1 hh
  go_wp2_with fail
  refine (places_any (s.extract 0 i) 58 58 _ rfl HS.out).mono ?_
  rintro e0 w2 ⟨A2, cap2, rfl, hh2, hw2⟩
  have HC02 := hid (And.intro ((own_cells hw2.toBelow _ HC0.out.2 0).1.trans HC0.out.1) (Nat.lt_of_lt_of_le HC0.out.2 hw2.size))
  clear hc0 hg0 HC0
  have HOZ2 := hid (HOZ1.out.keep hw2.toBelow)
  have hB2 := g_trans hB1 hw2.toBelow
  clear hw2 HOZ1 hB1
  rw [H58.out]
  rw [H58.out] at hh2
  go_wp2_with fail
  refine (places_any (s.extract 0 i) 35 35 _ rfl HS.out).mono ?_
  rintro e0 w3 ⟨A3, cap3, rfl, hh3, hw3⟩
  have HC03 := hid (And.intro ((own_cells hw3.toBelow _ HC02.out.2 0).1.trans HC02.out.1) (Nat.lt_of_lt_of_le HC02.out.2 hw3.size))
  clear HC02
  have HOZ3 := hid (HOZ2.out.keep hw3.toBelow)
  have hB3 := g_trans hB2 hw3.toBelow
  clear HOZ2 hB2
  rw [H35.out]
  rw [H35.out] at hh3
  obtain ⟨g2, rfl, hg2, hc2⟩ := hh2 (by omega)
  obtain ⟨g3, rfl, hg3, hc3⟩ := hh3 (by omega)
  rw [HJ.out] at hc2
  rw [HM.out] at hc3
  have hc2' := (own_cells hw3.toBelow _ hg2 0).1.trans hc2
  have hg2' := Nat.lt_of_lt_of_le hg2 hw3.size
  clear hh2 hh3 hw3 hc2 hg2
  clear HC03
  obtain ⟨o0, o1, o2, o3, o4, o5, o6, u0, u1, u2, u3, u4, u5, u6, u7⟩ := HOZ3.out
  go_wp2_with fail
  go_quiet (fail)
  go_wp2
  (try simp only [Exit.inBlock, Exit.then])
  refine bodyPost_ret (v := .tuple #[.agg #[.string ⟨#[]⟩, .string ⟨#[]⟩, .string ⟨#[]⟩, .string ⟨#[]⟩, .string ⟨#[]⟩, .string ⟨#[]⟩, .bool false], .int .i64 5]) ?_ rfl ?_
  · simp [results, Try.results72, go_sem, *]
  · refine ⟨by rw [HK.out]; rfl, ?_⟩
    repeat (first | (with_reducible refine g_alloc ?_ _) | (with_reducible refine g_drewN ?_ _) | (with_reducible refine g_drew ?_) | (with_reducible refine g_set ?_ (Nat.le_refl _) _))
    with_reducible exact hB3
end Go.Proofs.Ytgfgfggoofjeeaa
namespace Go.Proofs.Ytgfgfggoofjeeaa
open Go.RowKit Go.Sort
attribute [local go_sem] drewN_setCell drewN_alloc

set_option maxRecDepth 20000 in
set_option maxHeartbeats 400000 in
theorem rp_parts_0 (s : ByteArray) (x y z tx ty tz : ByteArray) (u1 u2 u3 : Bool) (j m : Nat) (w : World) (hs : s.size ≤ 90000) (h64 : cn s 64 = 0) (_hGs : s.size ≤ 90000) (h58 : cn s 58 = 1) (h35 : cn s 35 = 1) (hj : ix s 58 = j) (hm : ix s 35 = m) (hjm : j < m) (hml : m < s.size) (hx : s.extract 0 j = x) (hy : s.extract (j + 1) m = y) (hz : s.extract (m + 1) s.size = z) (htx : star x = tx) (hty : star y = ty) (htz : star z = tz) (hux : okS x = u1) (huy : okS y = u2) (huz : okS z = u3) (hk6 : (u1 && u2 && u3) = false → fpar s = (zF, 6)) (hk0 : (u1 && u2 && u3) = true → fpar s = (⟨tx, ty, tz, ⟨#[]⟩, ⟨#[]⟩, ⟨#[]⟩, false⟩, 0)) :
    Calls Try.prog 72 #[.string s] w (FParRet s w) := by
  have H58 := hid h58; clear h58
  have H35 := hid h35; clear h35
  have HJ := hid hj; clear hj
  have HM := hid hm; clear hm
  have HXE := hid hx; clear hx
  have HYE := hid hy; clear hy
  have HZE := hid hz; clear hz
  have HTX := hid htx; clear htx
  have HTY := hid hty; clear hty
  have HTZ := hid htz; clear htz
  have HUX := hid hux; clear hux
  have HUY := hid huy; clear huy
  have HUZ := hid huz; clear huz
  have HK6 := hid hk6; clear hk6
  have HK0 := hid hk0; clear hk0
  have nx : x.size ≤ maxLen := by rw [← HXE.out]; unfold maxLen; simp [ByteArray.size_extract]; omega
  have ny : y.size ≤ maxLen := by rw [← HYE.out]; unfold maxLen; simp [ByteArray.size_extract]; omega
  have nz : z.size ≤ maxLen := by rw [← HZE.out]; unfold maxLen; simp [ByteArray.size_extract]; omega
  have hjm1 : ¬ (m : Int) < (j : Int) := by omega
  have q1 : (0 : Int) ≤ (j : Int) := by omega
  have q2 : (j : Int) ≤ (s.size : Int) := by omega
  have q3 : (0 : Int) ≤ (j : Int) + 1 := by omega
  have q4 : (j : Int) + 1 ≤ (m : Int) := by omega
  have q5 : (m : Int) ≤ (s.size : Int) := by omega
  have q6 : (0 : Int) ≤ (m : Int) + 1 := by omega
  have q7 : (m : Int) + 1 ≤ (s.size : Int) := by omega
  have q8 : IntKind.i64.wrap ((j : Int) + 1) = (j : Int) + 1 := IntWalk.i64_in _ (by omega)
  have q9 : IntKind.i64.wrap ((m : Int) + 1) = (m : Int) + 1 := IntWalk.i64_in _ (by omega)
  have qa : ((j : Int) + 1).toNat = j + 1 := by omega
  have qb : ((m : Int) + 1).toNat = m + 1 := by omega
  have H64 := hid h64; clear h64
  have HS := hid hs
  go_enter Try.func72, Try.ntmps72
  go_wp2_with fail
  refine (places_any s 64 64 _ rfl hs).mono ?_
  rintro e0 w1 ⟨A, cap, rfl, hh, hw1⟩
  have HOZ1 : Hid (OZ w1 w.heap.size) := hid (OZ.keep (by simp only [OZ]; exact ⟨by go_simp, by go_simp, by go_simp, by go_simp, by go_simp, by go_simp, by go_simp, by go_simp, by go_simp, by go_simp, by go_simp, by go_simp, by go_simp, by go_simp, by simp⟩) hw1.toBelow)
  have hB1 : Below w.heap.size w w1 := g_trans (g_alloc g_refl _) hw1.toBelow
  rw [H64.out]
  clear hw1 hh
  go_wp2_with fail
  refine (places_any s 58 58 _ rfl HS.out).mono ?_
  rintro e0 w2 ⟨A2, cap2, rfl, hh2, hw2⟩
  have HOZ2 := hid (HOZ1.out.keep hw2.toBelow)
  have hB2 := g_trans hB1 hw2.toBelow
  clear hw2 HOZ1 hB1
  rw [H58.out]
  rw [H58.out] at hh2
  go_wp2_with fail
  refine (places_any s 35 35 _ rfl HS.out).mono ?_
  rintro e0 w3 ⟨A3, cap3, rfl, hh3, hw3⟩
  have HOZ3 := hid (HOZ2.out.keep hw3.toBelow)
  have hB3 := g_trans hB2 hw3.toBelow
  clear HOZ2 hB2
  rw [H35.out]
  rw [H35.out] at hh3
  obtain ⟨g2, rfl, hg2, hc2⟩ := hh2 (by omega)
  obtain ⟨g3, rfl, hg3, hc3⟩ := hh3 (by omega)
  rw [HJ.out] at hc2
  rw [HM.out] at hc3
  have hc2' := (own_cells hw3.toBelow _ hg2 0).1.trans hc2
  have hg2' := Nat.lt_of_lt_of_le hg2 hw3.size
  clear hh2 hh3 hw3 hc2 hg2
  go_wp2_with fail
  go_quiet (fail)
  go_wp2_with fail
  rw [HXE.out]
  refine (part_v x tx u1 _ nx HTX.out HUX.out).mono ?_
  rintro e0 w' ⟨rfl, rfl⟩
  go_wp2_with fail
  have hS : (w3.drewN nq).cell? ⟨g2, 0, none⟩ = some (.int .i64 j) ∧ (w3.drewN nq).cell? ⟨g3, 0, none⟩ = some (.int .i64 m) := ⟨hc2', hc3⟩
  go_region_held3 (fun w' => w'.cell? ⟨g2, 0, none⟩ = some (.int .i64 j) ∧ w'.cell? ⟨g3, 0, none⟩ = some (.int .i64 m)) (first | assumption | go_keep)
    (first | (go_at_call 96; rw [HYE.out]; refine (part_v y ty u2 _ ny HTY.out HUY.out).mono ?_; rintro r w' ⟨rfl, rfl⟩))
  go_wp2_with fail
  rw [HZE.out]
  refine (part_v z tz u3 _ nz HTZ.out HUZ.out).mono ?_
  rintro e0 w' ⟨rfl, rfl⟩
  have hz3 : w.heap.size < w3.heap.size := HOZ3.out.2.2.2.2.2.2.2.2.2.2.2.2.2.2
  cases u1 <;> cases u2 <;> cases u3 <;> simp only [err]
  · have HK := hid (HK6.out rfl)
    obtain ⟨o0, o1, o2, o3, o4, o5, o6, u0, u1, u2, u3, u4, u5, u6, u7⟩ := HOZ3.out
    go_wp2
    (try simp only [Exit.inBlock, Exit.then])
    refine bodyPost_ret (v := .tuple #[.agg #[.string ⟨#[]⟩, .string ⟨#[]⟩, .string ⟨#[]⟩, .string ⟨#[]⟩, .string ⟨#[]⟩, .string ⟨#[]⟩, .bool false], .int .i64 6]) ?_ rfl ?_
    · simp [results, Try.results72, go_sem, *]
    · refine ⟨by rw [HK.out]; rfl, ?_⟩
      repeat (first | (with_reducible refine g_alloc ?_ _) | (with_reducible refine g_drewN ?_ _) | (with_reducible refine g_drew ?_) | (with_reducible refine g_set ?_ (Nat.le_refl _) _))
      with_reducible exact hB3
  · have HK := hid (HK6.out rfl)
    obtain ⟨o0, o1, o2, o3, o4, o5, o6, u0, u1, u2, u3, u4, u5, u6, u7⟩ := HOZ3.out
    go_wp2
    (try simp only [Exit.inBlock, Exit.then])
    refine bodyPost_ret (v := .tuple #[.agg #[.string ⟨#[]⟩, .string ⟨#[]⟩, .string ⟨#[]⟩, .string ⟨#[]⟩, .string ⟨#[]⟩, .string ⟨#[]⟩, .bool false], .int .i64 6]) ?_ rfl ?_
    · simp [results, Try.results72, go_sem, *]
    · refine ⟨by rw [HK.out]; rfl, ?_⟩
      repeat (first | (with_reducible refine g_alloc ?_ _) | (with_reducible refine g_drewN ?_ _) | (with_reducible refine g_drew ?_) | (with_reducible refine g_set ?_ (Nat.le_refl _) _))
      with_reducible exact hB3
  · have HK := hid (HK6.out rfl)
    obtain ⟨o0, o1, o2, o3, o4, o5, o6, u0, u1, u2, u3, u4, u5, u6, u7⟩ := HOZ3.out
    go_wp2
    (try simp only [Exit.inBlock, Exit.then])
    refine bodyPost_ret (v := .tuple #[.agg #[.string ⟨#[]⟩, .string ⟨#[]⟩, .string ⟨#[]⟩, .string ⟨#[]⟩, .string ⟨#[]⟩, .string ⟨#[]⟩, .bool false], .int .i64 6]) ?_ rfl ?_
    · simp [results, Try.results72, go_sem, *]
    · refine ⟨by rw [HK.out]; rfl, ?_⟩
      repeat (first | (with_reducible refine g_alloc ?_ _) | (with_reducible refine g_drewN ?_ _) | (with_reducible refine g_drew ?_) | (with_reducible refine g_set ?_ (Nat.le_refl _) _))
      with_reducible exact hB3
  · have HK := hid (HK6.out rfl)
    obtain ⟨o0, o1, o2, o3, o4, o5, o6, u0, u1, u2, u3, u4, u5, u6, u7⟩ := HOZ3.out
    go_wp2
    (try simp only [Exit.inBlock, Exit.then])
    refine bodyPost_ret (v := .tuple #[.agg #[.string ⟨#[]⟩, .string ⟨#[]⟩, .string ⟨#[]⟩, .string ⟨#[]⟩, .string ⟨#[]⟩, .string ⟨#[]⟩, .bool false], .int .i64 6]) ?_ rfl ?_
    · simp [results, Try.results72, go_sem, *]
    · refine ⟨by rw [HK.out]; rfl, ?_⟩
      repeat (first | (with_reducible refine g_alloc ?_ _) | (with_reducible refine g_drewN ?_ _) | (with_reducible refine g_drew ?_) | (with_reducible refine g_set ?_ (Nat.le_refl _) _))
      with_reducible exact hB3
  · have HK := hid (HK6.out rfl)
    obtain ⟨o0, o1, o2, o3, o4, o5, o6, u0, u1, u2, u3, u4, u5, u6, u7⟩ := HOZ3.out
    go_wp2
    (try simp only [Exit.inBlock, Exit.then])
    refine bodyPost_ret (v := .tuple #[.agg #[.string ⟨#[]⟩, .string ⟨#[]⟩, .string ⟨#[]⟩, .string ⟨#[]⟩, .string ⟨#[]⟩, .string ⟨#[]⟩, .bool false], .int .i64 6]) ?_ rfl ?_
    · simp [results, Try.results72, go_sem, *]
    · refine ⟨by rw [HK.out]; rfl, ?_⟩
      repeat (first | (with_reducible refine g_alloc ?_ _) | (with_reducible refine g_drewN ?_ _) | (with_reducible refine g_drew ?_) | (with_reducible refine g_set ?_ (Nat.le_refl _) _))
      with_reducible exact hB3
  · have HK := hid (HK6.out rfl)
    obtain ⟨o0, o1, o2, o3, o4, o5, o6, u0, u1, u2, u3, u4, u5, u6, u7⟩ := HOZ3.out
    go_wp2
    (try simp only [Exit.inBlock, Exit.then])
    refine bodyPost_ret (v := .tuple #[.agg #[.string ⟨#[]⟩, .string ⟨#[]⟩, .string ⟨#[]⟩, .string ⟨#[]⟩, .string ⟨#[]⟩, .string ⟨#[]⟩, .bool false], .int .i64 6]) ?_ rfl ?_
    · simp [results, Try.results72, go_sem, *]
    · refine ⟨by rw [HK.out]; rfl, ?_⟩
      repeat (first | (with_reducible refine g_alloc ?_ _) | (with_reducible refine g_drewN ?_ _) | (with_reducible refine g_drew ?_) | (with_reducible refine g_set ?_ (Nat.le_refl _) _))
      with_reducible exact hB3
  · have HK := hid (HK6.out rfl)
    obtain ⟨o0, o1, o2, o3, o4, o5, o6, u0, u1, u2, u3, u4, u5, u6, u7⟩ := HOZ3.out
    go_wp2
    (try simp only [Exit.inBlock, Exit.then])
    refine bodyPost_ret (v := .tuple #[.agg #[.string ⟨#[]⟩, .string ⟨#[]⟩, .string ⟨#[]⟩, .string ⟨#[]⟩, .string ⟨#[]⟩, .string ⟨#[]⟩, .bool false], .int .i64 6]) ?_ rfl ?_
    · simp [results, Try.results72, go_sem, *]
    · refine ⟨by rw [HK.out]; rfl, ?_⟩
      repeat (first | (with_reducible refine g_alloc ?_ _) | (with_reducible refine g_drewN ?_ _) | (with_reducible refine g_drew ?_) | (with_reducible refine g_set ?_ (Nat.le_refl _) _))
      with_reducible exact hB3
  · have HK := hid (HK0.out rfl)
    obtain ⟨o0, o1, o2, o3, o4, o5, o6, u0, u1, u2, u3, u4, u5, u6, u7⟩ := HOZ3.out
    go_wp2
    (try simp only [Exit.inBlock, Exit.then])
    refine bodyPost_ret (v := .tuple #[.agg #[.string tx, .string ty, .string tz, .string ⟨#[]⟩, .string ⟨#[]⟩, .string ⟨#[]⟩, .bool false], .int .i64 0]) ?_ rfl ?_
    · simp [results, Try.results72, go_sem, *]
    · refine ⟨by rw [HK.out]; rfl, ?_⟩
      repeat (first | (with_reducible refine g_alloc ?_ _) | (with_reducible refine g_drewN ?_ _) | (with_reducible refine g_drew ?_) | (with_reducible refine g_set ?_ (Nat.le_refl _) _) | (with_reducible refine g_set ?_ (show w.heap.size ≤ w3.heap.size by omega) _))
      with_reducible exact hB3

set_option maxRecDepth 20000 in
set_option maxHeartbeats 2000000 in
theorem rp_parts_1 (s : ByteArray) (G x y z tx ty tz : ByteArray) (u1 u2 u3 : Bool) (j m : Nat) (i : Nat) (d e f : ByteArray) (n : Int) (w : World) (hs : s.size ≤ 90000) (h64 : cn s 64 = 1) (hi : ix s 64 = i) (hil : i < s.size) (hG : (s.extract 0 i) = G) (hGs : G.size ≤ 90000) (h58 : cn (s.extract 0 i) 58 = 1) (h35 : cn (s.extract 0 i) 35 = 1) (hj : ix (s.extract 0 i) 58 = j) (hm : ix (s.extract 0 i) 35 = m) (hjm : j < m) (hml : m < G.size) (hx : G.extract 0 j = x) (hy : G.extract (j + 1) m = y) (hz : G.extract (m + 1) G.size = z) (htx : star x = tx) (hty : star y = ty) (htz : star z = tz) (hux : okS x = u1) (huy : okS y = u2) (huz : okS z = u3) (hk6 : (u1 && u2 && u3) = false → fpar s = (zF, 6)) (hu : parseF (s.extract (i + 1) s.size) 0 1 = (d, e, f, n)) (hkn : ¬ n = 0 → (u1 && u2 && u3) = true → fpar s = (zF, n)) (hk0 : n = 0 → (u1 && u2 && u3) = true → fpar s = (⟨tx, ty, tz, d, e, f, true⟩, 0)) :
    Calls Try.prog 72 #[.string s] w (FParRet s w) := by
  have HGE := hid hG; clear hG
  have H58 := hid h58; clear h58
  have H35 := hid h35; clear h35
  have HJ := hid hj; clear hj
  have HM := hid hm; clear hm
  have HXE := hid hx; clear hx
  have HYE := hid hy; clear hy
  have HZE := hid hz; clear hz
  have HTX := hid htx; clear htx
  have HTY := hid hty; clear hty
  have HTZ := hid htz; clear htz
  have HUX := hid hux; clear hux
  have HUY := hid huy; clear huy
  have HUZ := hid huz; clear huz
  have HK6 := hid hk6; clear hk6
  have HK0 := hid hk0; clear hk0
  have HU := hid hu; clear hu
  have HKN := hid hkn; clear hkn
  have nx : x.size ≤ maxLen := by rw [← HXE.out]; unfold maxLen; simp [ByteArray.size_extract]; omega
  have ny : y.size ≤ maxLen := by rw [← HYE.out]; unfold maxLen; simp [ByteArray.size_extract]; omega
  have nz : z.size ≤ maxLen := by rw [← HZE.out]; unfold maxLen; simp [ByteArray.size_extract]; omega
  have hjm1 : ¬ (m : Int) < (j : Int) := by omega
  have q1 : (0 : Int) ≤ (j : Int) := by omega
  have q2 : (j : Int) ≤ (G.size : Int) := by omega
  have q3 : (0 : Int) ≤ (j : Int) + 1 := by omega
  have q4 : (j : Int) + 1 ≤ (m : Int) := by omega
  have q5 : (m : Int) ≤ (G.size : Int) := by omega
  have q6 : (0 : Int) ≤ (m : Int) + 1 := by omega
  have q7 : (m : Int) + 1 ≤ (G.size : Int) := by omega
  have q8 : IntKind.i64.wrap ((j : Int) + 1) = (j : Int) + 1 := IntWalk.i64_in _ (by omega)
  have q9 : IntKind.i64.wrap ((m : Int) + 1) = (m : Int) + 1 := IntWalk.i64_in _ (by omega)
  have qa : ((j : Int) + 1).toNat = j + 1 := by omega
  have qb : ((m : Int) + 1).toNat = m + 1 := by omega
  have H64 := hid h64; clear h64
  have HI := hid hi; clear hi
  have HS : Hid ((s.extract 0 i).size ≤ 90000) := hid (by simp [ByteArray.size_extract]; omega)
  have b1 : (0 : Int) ≤ (i : Int) := by omega
  have b2 : (i : Int) ≤ (s.size : Int) := by omega
  have r1 : (0 : Int) ≤ (i : Int) + 1 := by omega
  have r2 : (i : Int) + 1 ≤ (s.size : Int) := by omega
  have r3 : IntKind.i64.wrap ((i : Int) + 1) = (i : Int) + 1 := IntWalk.i64_in _ (by omega)
  have r4 : ((i : Int) + 1).toNat = i + 1 := by omega
  have rs : (s.extract (i + 1) s.size).size ≤ maxLen := by unfold maxLen; simp [ByteArray.size_extract]; omega
  go_enter Try.func72, Try.ntmps72
  go_wp2_with fail
  refine (places_any s 64 64 _ rfl hs).mono ?_
  rintro e0 w1 ⟨A, cap, rfl, hh, hw1⟩
  have HOZ1 : Hid (OZ w1 w.heap.size) := hid (OZ.keep (by simp only [OZ]; exact ⟨by go_simp, by go_simp, by go_simp, by go_simp, by go_simp, by go_simp, by go_simp, by go_simp, by go_simp, by go_simp, by go_simp, by go_simp, by go_simp, by go_simp, by simp⟩) hw1.toBelow)
  have hB1 : Below w.heap.size w w1 := g_trans (g_alloc g_refl _) hw1.toBelow
  rw [H64.out]
  obtain ⟨g0, rfl, hg0, hc0⟩ := hh (by rw [H64.out]; omega)
  rw [HI.out] at hc0
  have HC0 := hid (And.intro hc0 hg0)
  clear hw1 hh
  go_wp2_with fail
  refine (places_any (s.extract 0 i) 58 58 _ rfl HS.out).mono ?_
  rintro e0 w2 ⟨A2, cap2, rfl, hh2, hw2⟩
  have HC02 := hid (And.intro ((own_cells hw2.toBelow _ HC0.out.2 0).1.trans HC0.out.1) (Nat.lt_of_lt_of_le HC0.out.2 hw2.size))
  clear hc0 hg0 HC0
  have HOZ2 := hid (HOZ1.out.keep hw2.toBelow)
  have hB2 := g_trans hB1 hw2.toBelow
  clear hw2 HOZ1 hB1
  rw [H58.out]
  rw [H58.out] at hh2
  go_wp2_with fail
  refine (places_any (s.extract 0 i) 35 35 _ rfl HS.out).mono ?_
  rintro e0 w3 ⟨A3, cap3, rfl, hh3, hw3⟩
  have HC03 := hid (And.intro ((own_cells hw3.toBelow _ HC02.out.2 0).1.trans HC02.out.1) (Nat.lt_of_lt_of_le HC02.out.2 hw3.size))
  clear HC02
  have HOZ3 := hid (HOZ2.out.keep hw3.toBelow)
  have hB3 := g_trans hB2 hw3.toBelow
  clear HOZ2 hB2
  rw [H35.out]
  rw [H35.out] at hh3
  obtain ⟨g2, rfl, hg2, hc2⟩ := hh2 (by omega)
  obtain ⟨g3, rfl, hg3, hc3⟩ := hh3 (by omega)
  rw [HJ.out] at hc2
  rw [HM.out] at hc3
  have hc2' := (own_cells hw3.toBelow _ hg2 0).1.trans hc2
  have hg2' := Nat.lt_of_lt_of_le hg2 hw3.size
  clear hh2 hh3 hw3 hc2 hg2
  obtain ⟨hc0, hg0⟩ := HC03.out
  clear HC03
  (try rw [HGE.out])
  (try rw [HGE.out] at *)
  go_wp2_with fail
  go_quiet (fail)
  go_wp2_with fail
  rw [HXE.out]
  refine (part_v x tx u1 _ nx HTX.out HUX.out).mono ?_
  rintro e0 w' ⟨rfl, rfl⟩
  go_wp2_with fail
  have hS : (w3.drewN nq).cell? ⟨g2, 0, none⟩ = some (.int .i64 j) ∧ (w3.drewN nq).cell? ⟨g3, 0, none⟩ = some (.int .i64 m) := ⟨hc2', hc3⟩
  go_region_held3 (fun w' => w'.cell? ⟨g2, 0, none⟩ = some (.int .i64 j) ∧ w'.cell? ⟨g3, 0, none⟩ = some (.int .i64 m)) (first | assumption | go_keep)
    (first | (go_at_call 96; rw [HYE.out]; refine (part_v y ty u2 _ ny HTY.out HUY.out).mono ?_; rintro r w' ⟨rfl, rfl⟩))
  go_wp2_with fail
  rw [HZE.out]
  refine (part_v z tz u3 _ nz HTZ.out HUZ.out).mono ?_
  rintro e0 w' ⟨rfl, rfl⟩
  have hz3 : w.heap.size < w3.heap.size := HOZ3.out.2.2.2.2.2.2.2.2.2.2.2.2.2.2
  cases u1 <;> cases u2 <;> cases u3 <;> simp only [err]
  · have HK := hid (HK6.out rfl)
    obtain ⟨o0, o1, o2, o3, o4, o5, o6, u0, u1, u2, u3, u4, u5, u6, u7⟩ := HOZ3.out
    go_wp2
    (try simp only [Exit.inBlock, Exit.then])
    refine bodyPost_ret (v := .tuple #[.agg #[.string ⟨#[]⟩, .string ⟨#[]⟩, .string ⟨#[]⟩, .string ⟨#[]⟩, .string ⟨#[]⟩, .string ⟨#[]⟩, .bool false], .int .i64 6]) ?_ rfl ?_
    · simp [results, Try.results72, go_sem, *]
    · refine ⟨by rw [HK.out]; rfl, ?_⟩
      repeat (first | (with_reducible refine g_alloc ?_ _) | (with_reducible refine g_drewN ?_ _) | (with_reducible refine g_drew ?_) | (with_reducible refine g_set ?_ (Nat.le_refl _) _))
      with_reducible exact hB3
  · have HK := hid (HK6.out rfl)
    obtain ⟨o0, o1, o2, o3, o4, o5, o6, u0, u1, u2, u3, u4, u5, u6, u7⟩ := HOZ3.out
    go_wp2
    (try simp only [Exit.inBlock, Exit.then])
    refine bodyPost_ret (v := .tuple #[.agg #[.string ⟨#[]⟩, .string ⟨#[]⟩, .string ⟨#[]⟩, .string ⟨#[]⟩, .string ⟨#[]⟩, .string ⟨#[]⟩, .bool false], .int .i64 6]) ?_ rfl ?_
    · simp [results, Try.results72, go_sem, *]
    · refine ⟨by rw [HK.out]; rfl, ?_⟩
      repeat (first | (with_reducible refine g_alloc ?_ _) | (with_reducible refine g_drewN ?_ _) | (with_reducible refine g_drew ?_) | (with_reducible refine g_set ?_ (Nat.le_refl _) _))
      with_reducible exact hB3
  · have HK := hid (HK6.out rfl)
    obtain ⟨o0, o1, o2, o3, o4, o5, o6, u0, u1, u2, u3, u4, u5, u6, u7⟩ := HOZ3.out
    go_wp2
    (try simp only [Exit.inBlock, Exit.then])
    refine bodyPost_ret (v := .tuple #[.agg #[.string ⟨#[]⟩, .string ⟨#[]⟩, .string ⟨#[]⟩, .string ⟨#[]⟩, .string ⟨#[]⟩, .string ⟨#[]⟩, .bool false], .int .i64 6]) ?_ rfl ?_
    · simp [results, Try.results72, go_sem, *]
    · refine ⟨by rw [HK.out]; rfl, ?_⟩
      repeat (first | (with_reducible refine g_alloc ?_ _) | (with_reducible refine g_drewN ?_ _) | (with_reducible refine g_drew ?_) | (with_reducible refine g_set ?_ (Nat.le_refl _) _))
      with_reducible exact hB3
  · have HK := hid (HK6.out rfl)
    obtain ⟨o0, o1, o2, o3, o4, o5, o6, u0, u1, u2, u3, u4, u5, u6, u7⟩ := HOZ3.out
    go_wp2
    (try simp only [Exit.inBlock, Exit.then])
    refine bodyPost_ret (v := .tuple #[.agg #[.string ⟨#[]⟩, .string ⟨#[]⟩, .string ⟨#[]⟩, .string ⟨#[]⟩, .string ⟨#[]⟩, .string ⟨#[]⟩, .bool false], .int .i64 6]) ?_ rfl ?_
    · simp [results, Try.results72, go_sem, *]
    · refine ⟨by rw [HK.out]; rfl, ?_⟩
      repeat (first | (with_reducible refine g_alloc ?_ _) | (with_reducible refine g_drewN ?_ _) | (with_reducible refine g_drew ?_) | (with_reducible refine g_set ?_ (Nat.le_refl _) _))
      with_reducible exact hB3
  · have HK := hid (HK6.out rfl)
    obtain ⟨o0, o1, o2, o3, o4, o5, o6, u0, u1, u2, u3, u4, u5, u6, u7⟩ := HOZ3.out
    go_wp2
    (try simp only [Exit.inBlock, Exit.then])
    refine bodyPost_ret (v := .tuple #[.agg #[.string ⟨#[]⟩, .string ⟨#[]⟩, .string ⟨#[]⟩, .string ⟨#[]⟩, .string ⟨#[]⟩, .string ⟨#[]⟩, .bool false], .int .i64 6]) ?_ rfl ?_
    · simp [results, Try.results72, go_sem, *]
    · refine ⟨by rw [HK.out]; rfl, ?_⟩
      repeat (first | (with_reducible refine g_alloc ?_ _) | (with_reducible refine g_drewN ?_ _) | (with_reducible refine g_drew ?_) | (with_reducible refine g_set ?_ (Nat.le_refl _) _))
      with_reducible exact hB3
  · have HK := hid (HK6.out rfl)
    obtain ⟨o0, o1, o2, o3, o4, o5, o6, u0, u1, u2, u3, u4, u5, u6, u7⟩ := HOZ3.out
    go_wp2
    (try simp only [Exit.inBlock, Exit.then])
    refine bodyPost_ret (v := .tuple #[.agg #[.string ⟨#[]⟩, .string ⟨#[]⟩, .string ⟨#[]⟩, .string ⟨#[]⟩, .string ⟨#[]⟩, .string ⟨#[]⟩, .bool false], .int .i64 6]) ?_ rfl ?_
    · simp [results, Try.results72, go_sem, *]
    · refine ⟨by rw [HK.out]; rfl, ?_⟩
      repeat (first | (with_reducible refine g_alloc ?_ _) | (with_reducible refine g_drewN ?_ _) | (with_reducible refine g_drew ?_) | (with_reducible refine g_set ?_ (Nat.le_refl _) _))
      with_reducible exact hB3
  · have HK := hid (HK6.out rfl)
    obtain ⟨o0, o1, o2, o3, o4, o5, o6, u0, u1, u2, u3, u4, u5, u6, u7⟩ := HOZ3.out
    go_wp2
    (try simp only [Exit.inBlock, Exit.then])
    refine bodyPost_ret (v := .tuple #[.agg #[.string ⟨#[]⟩, .string ⟨#[]⟩, .string ⟨#[]⟩, .string ⟨#[]⟩, .string ⟨#[]⟩, .string ⟨#[]⟩, .bool false], .int .i64 6]) ?_ rfl ?_
    · simp [results, Try.results72, go_sem, *]
    · refine ⟨by rw [HK.out]; rfl, ?_⟩
      repeat (first | (with_reducible refine g_alloc ?_ _) | (with_reducible refine g_drewN ?_ _) | (with_reducible refine g_drew ?_) | (with_reducible refine g_set ?_ (Nat.le_refl _) _))
      with_reducible exact hB3
  · go_wp2_with fail
    refine (rparse_v2 _ d e f n _ rs HU.out).mono ?_
    rintro e0 w5 ⟨⟨x1, y1, z1, uu, rfl, hxx⟩, hw5⟩
    have HXX := hid hxx; clear hxx
    have own := own_cells hw5 w3.heap.size (by simp)
    have xc0 : w5.cell? ⟨w3.heap.size, 0, none⟩ = some (.string tx) := (own 0).1.trans (by go_simp)
    have xf0 : w5.frozen? ⟨w3.heap.size, 0, none⟩ = false := (own 0).2.trans (by go_simp)
    have xc1 : w5.cell? ⟨w3.heap.size, 1, none⟩ = some (.string ty) := (own 1).1.trans (by go_simp)
    have xf1 : w5.frozen? ⟨w3.heap.size, 1, none⟩ = false := (own 1).2.trans (by go_simp)
    have xc2 : w5.cell? ⟨w3.heap.size, 2, none⟩ = some (.string tz) := (own 2).1.trans (by go_simp)
    have xf2 : w5.frozen? ⟨w3.heap.size, 2, none⟩ = false := (own 2).2.trans (by go_simp)
    have xc3 : w5.cell? ⟨w3.heap.size, 3, none⟩ = some (.string ⟨#[]⟩) := (own 3).1.trans (by go_simp)
    have xf3 : w5.frozen? ⟨w3.heap.size, 3, none⟩ = false := (own 3).2.trans (by go_simp)
    have xc4 : w5.cell? ⟨w3.heap.size, 4, none⟩ = some (.string ⟨#[]⟩) := (own 4).1.trans (by go_simp)
    have xf4 : w5.frozen? ⟨w3.heap.size, 4, none⟩ = false := (own 4).2.trans (by go_simp)
    have xc5 : w5.cell? ⟨w3.heap.size, 5, none⟩ = some (.string ⟨#[]⟩) := (own 5).1.trans (by go_simp)
    have xf5 : w5.frozen? ⟨w3.heap.size, 5, none⟩ = false := (own 5).2.trans (by go_simp)
    have xc6 : w5.cell? ⟨w3.heap.size, 6, none⟩ = some (.bool false) := (own 6).1.trans (by go_simp)
    have xf6 : w5.frozen? ⟨w3.heap.size, 6, none⟩ = false := (own 6).2.trans (by go_simp)
    clear own
    have hA5 : Below w3.heap.size w3 w5 := g_trans (by repeat (first | (with_reducible exact g_refl) | (with_reducible refine g_drew ?_) | (with_reducible refine g_drewN ?_ _) | (with_reducible refine g_alloc ?_ _))) hw5
    have HOZ5 := hid (HOZ3.out.keep hA5)
    have hB5 := g_trans hB3 hA5
    have hz5 : w3.heap.size < w5.heap.size := by have := hw5.size; simp at this; omega
    clear hw5 hA5 hB3
    obtain ⟨o0, o1, o2, o3, o4, o5, o6, u0, u1, u2, u3, u4, u5, u6, u7⟩ := HOZ5.out
    by_cases hn : n = 0
    · subst hn
      obtain ⟨rfl, rfl, rfl⟩ := HXX.out rfl
      have HK := hid (HK0.out rfl rfl)
      go_wp2
      (try simp only [Exit.inBlock, Exit.then])
      refine bodyPost_ret (v := .tuple #[.agg #[.string tx, .string ty, .string tz, .string x1, .string y1, .string z1, .bool true], .int .i64 0]) ?_ rfl ?_
      · simp [results, Try.results72, go_sem, *]
      · refine ⟨by rw [HK.out]; rfl, ?_⟩
        repeat (first | (with_reducible refine g_alloc ?_ _) | (with_reducible refine g_drewN ?_ _) | (with_reducible refine g_drew ?_) | (with_reducible refine g_set ?_ (Nat.le_refl _) _) | (with_reducible refine g_set ?_ (show w.heap.size ≤ w3.heap.size by omega) _))
        with_reducible exact hB5
    · have HK := hid (HKN.out hn rfl)
      go_wp2
      (try simp only [Exit.inBlock, Exit.then])
      refine bodyPost_ret (v := .tuple #[.agg #[.string ⟨#[]⟩, .string ⟨#[]⟩, .string ⟨#[]⟩, .string ⟨#[]⟩, .string ⟨#[]⟩, .string ⟨#[]⟩, .bool false], .int .i64 n]) ?_ rfl ?_
      · simp [results, Try.results72, go_sem, *]
      · refine ⟨by rw [HK.out]; rfl, ?_⟩
        repeat (first | (with_reducible refine g_alloc ?_ _) | (with_reducible refine g_drewN ?_ _) | (with_reducible refine g_drew ?_) | (with_reducible refine g_set ?_ (Nat.le_refl _) _) | (with_reducible refine g_set ?_ (show w.heap.size ≤ w3.heap.size by omega) _))
        with_reducible exact hB5
end Go.Proofs.Ytgfgfggoofjeeaa
namespace Go.Proofs.Ytgfgfggoofjeeaa
open Go.RowKit Go.Sort
theorem ix_ne {s : ByteArray} (h : 0 < cn s 58) (k : 0 < cn s 35) : ¬ ix s 58 = ix s 35 := fun e => by
  have a1 := at_ix s 58 h; have a2 := at_ix s 35 k
  rw [e, a2] at a1; exact absurd a1 (by decide)
theorem gerr5 {s : ByteArray} (h : ¬ 1 < cn s 64) (k : ¬ cn (gof s) 58 = 1 ∨ ¬ cn (gof s) 35 = 1 ∨ ix (gof s) 35 < ix (gof s) 58) : fpar s = (zF, 5) := fpar_gerr h (gpar5 k) (by decide)
theorem rfparse (s : ByteArray) (w : World) (hs : s.size ≤ 90000) : Calls Try.prog 72 #[.string s] w (FParRet s w) := by
  by_cases h0 : cn s 64 = 0
  · have hg : gof s = s := by unfold gof; rw [if_pos h0]
    have h5 := fun k => gerr5 (s := s) (by omega) k
    rw [hg] at h5
    by_cases h58 : cn s 58 = 1
    · by_cases h35 : cn s 35 = 1
      · by_cases ho : ix s 35 < ix s 58
        · exact rp_ord_0 s _ _ w hs h0 h58 h35 rfl rfl ho (h5 (.inr (.inr ho)))
        · have hno : ¬ (¬ cn s 58 = 1 ∨ ¬ cn s 35 = 1 ∨ ix s 35 < ix s 58) := by omega
          have hne := ix_ne (s := s) (by omega) (by omega)
          refine rp_parts_0 s _ _ _ _ _ _ _ _ _ _ _ w hs h0 hs h58 h35 rfl rfl (by omega) (ix_lt (by omega)) rfl rfl rfl rfl rfl rfl rfl rfl rfl (fun k => ?_) (fun k => ?_)
          · exact fpar_gerr (by omega) (by rw [hg]; exact gpar6 hno rfl rfl rfl k) (by decide)
          · exact fpar_plain h0 (by rw [hg]; exact gpar0 hno rfl rfl rfl k)
      · exact rp_b35_0 s _ w hs h0 h58 rfl h35 (h5 (.inr (.inl h35)))
    · exact rp_b58_0 s _ _ w hs h0 rfl h58 rfl (h5 (.inl h58))
  · have hg : gof s = s.extract 0 (ix s 64) := by unfold gof; rw [if_neg h0]
    have hil : ix s 64 < s.size := ix_lt (by omega)
    by_cases h1 : cn s 64 = 1
    · have h5 := fun k => gerr5 (s := s) (by omega) k
      rw [hg] at h5
      have hGs : (s.extract 0 (ix s 64)).size ≤ 90000 := by simp [ByteArray.size_extract]; omega
      by_cases h58 : cn (s.extract 0 (ix s 64)) 58 = 1
      · by_cases h35 : cn (s.extract 0 (ix s 64)) 35 = 1
        · by_cases ho : ix (s.extract 0 (ix s 64)) 35 < ix (s.extract 0 (ix s 64)) 58
          · exact rp_ord_1 s _ _ _ w hs h1 rfl hil h58 h35 rfl rfl ho (h5 (.inr (.inr ho)))
          · have hno : ¬ (¬ cn (s.extract 0 (ix s 64)) 58 = 1 ∨ ¬ cn (s.extract 0 (ix s 64)) 35 = 1 ∨ ix (s.extract 0 (ix s 64)) 35 < ix (s.extract 0 (ix s 64)) 58) := by omega
            have hne := ix_ne (s := s.extract 0 (ix s 64)) (by omega) (by omega)
            obtain ⟨⟨d, e, f, n⟩, hu⟩ : ∃ t, parseF (s.extract (ix s 64 + 1) s.size) 0 1 = t := ⟨_, rfl⟩
            refine rp_parts_1 s _ _ _ _ _ _ _ _ _ _ _ _ _ d e f n w hs h1 rfl hil rfl hGs h58 h35 rfl rfl (by omega) (ix_lt (by omega)) rfl rfl rfl rfl rfl rfl rfl rfl rfl (fun k => ?_) hu (fun hn k => ?_) (fun hn k => ?_)
            · exact fpar_gerr (by omega) (by rw [hg]; exact gpar6 hno rfl rfl rfl k) (by decide)
            · exact fpar_serr h1 (by rw [hg]; exact gpar0 hno rfl rfl rfl k) hu hn
            · subst hn; exact fpar_sub h1 (by rw [hg]; exact gpar0 hno rfl rfl rfl k) hu
        · exact rp_b35_1 s _ _ w hs h1 rfl hil h58 rfl h35 (h5 (.inr (.inl h35)))
      · exact rp_b58_1 s _ _ _ w hs h1 rfl hil rfl h58 rfl (h5 (.inl h58))
    · exact rp_many s _ _ _ _ w hs rfl rfl hil (by omega) rfl rfl (fpar_many (by omega))
end Go.Proofs.Ytgfgfggoofjeeaa
