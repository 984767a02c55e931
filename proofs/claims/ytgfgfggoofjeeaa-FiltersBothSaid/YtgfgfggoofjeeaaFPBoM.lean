/-
  FiltersBoth returns true: the walk.
  FiltersBoth: for every T and every two F the call returns true, and they read as before. No condition.
-/
import Derived.Test.YtgfgfggoofjeeaaFBq
import Derived.BigQuiet
import Derived.Laws.StructEq
import Derived.Test.YtgfgfggoofjeeaaFFac
namespace Go.Proofs.Ytgfgfggoofjeeaa
open Go.RowKit Go.Sort FB

theorem kpn6 {a b : World} {p0 p1 p2 p3 p4 p5 o0 o1 o2 o3 o4 o5 : Nat} {x0 x1 x2 x3 x4 x5 : Value} (h : Below a.heap.size a b) (s : a.cell? ⟨p0, o0, none⟩ = some x0 ∧ a.cell? ⟨p1, o1, none⟩ = some x1 ∧ a.cell? ⟨p2, o2, none⟩ = some x2 ∧ a.cell? ⟨p3, o3, none⟩ = some x3 ∧ a.cell? ⟨p4, o4, none⟩ = some x4 ∧ a.cell? ⟨p5, o5, none⟩ = some x5) : b.cell? ⟨p0, o0, none⟩ = some x0 ∧ b.cell? ⟨p1, o1, none⟩ = some x1 ∧ b.cell? ⟨p2, o2, none⟩ = some x2 ∧ b.cell? ⟨p3, o3, none⟩ = some x3 ∧ b.cell? ⟨p4, o4, none⟩ = some x4 ∧ b.cell? ⟨p5, o5, none⟩ = some x5 :=
  ⟨fk1 h s.1, fk1 h s.2.1, fk1 h s.2.2.1, fk1 h s.2.2.2.1, fk1 h s.2.2.2.2.1, fk1 h s.2.2.2.2.2⟩
theorem kpp6 {W : World} {g : Nat} {cs : Array Value} {p0 p1 p2 p3 p4 p5 o0 o1 o2 o3 o4 o5 : Nat} {x0 x1 x2 x3 x4 x5 : Value} (h0 : ¬ p0 = g) (h1 : ¬ p1 = g) (h2 : ¬ p2 = g) (h3 : ¬ p3 = g) (h4 : ¬ p4 = g) (h5 : ¬ p5 = g) (s : W.cell? ⟨p0, o0, none⟩ = some x0 ∧ W.cell? ⟨p1, o1, none⟩ = some x1 ∧ W.cell? ⟨p2, o2, none⟩ = some x2 ∧ W.cell? ⟨p3, o3, none⟩ = some x3 ∧ W.cell? ⟨p4, o4, none⟩ = some x4 ∧ W.cell? ⟨p5, o5, none⟩ = some x5) : (putB W g cs).cell? ⟨p0, o0, none⟩ = some x0 ∧ (putB W g cs).cell? ⟨p1, o1, none⟩ = some x1 ∧ (putB W g cs).cell? ⟨p2, o2, none⟩ = some x2 ∧ (putB W g cs).cell? ⟨p3, o3, none⟩ = some x3 ∧ (putB W g cs).cell? ⟨p4, o4, none⟩ = some x4 ∧ (putB W g cs).cell? ⟨p5, o5, none⟩ = some x5 :=
  ⟨(put_cell h0 _ _).trans s.1, (put_cell h1 _ _).trans s.2.1, (put_cell h2 _ _).trans s.2.2.1, (put_cell h3 _ _).trans s.2.2.2.1, (put_cell h4 _ _).trans s.2.2.2.2.1, (put_cell h5 _ _).trans s.2.2.2.2.2⟩
theorem FB.Blk.fil {W : World} {g : Nat} {ty : TypeId} {t : Fil} (h : Blk W g ty #[.string t.a, .string t.b, .string t.c, .string t.d, .string t.e, .string t.f, .bool t.x]) : W.cell? ⟨g, 0, none⟩ = some (.string t.a) ∧ W.cell? ⟨g, 1, none⟩ = some (.string t.b) ∧ W.cell? ⟨g, 2, none⟩ = some (.string t.c) ∧ W.cell? ⟨g, 3, none⟩ = some (.string t.d) ∧ W.cell? ⟨g, 4, none⟩ = some (.string t.e) ∧ W.cell? ⟨g, 5, none⟩ = some (.string t.f) ∧ W.cell? ⟨g, 6, none⟩ = some (.bool t.x) :=
  ⟨(h.cell 0).trans rfl, (h.cell 1).trans rfl, (h.cell 2).trans rfl, (h.cell 3).trans rfl, (h.cell 4).trans rfl, (h.cell 5).trans rfl, (h.cell 6).trans rfl⟩
theorem FB.Blk.fb {W : World} {g : Nat} {ty : TypeId} {t : Fil} (h : Blk W g ty #[.string t.a, .string t.b, .string t.c, .string t.d, .string t.e, .string t.f, .bool t.x]) : Go.Proofs.Ytgfgfggoofjeeaa.FB W g t := by
  obtain ⟨e0, e1, e2, e3, e4, e5, e6⟩ := h.fil
  exact ⟨e0, e1, e2, e3, e4, e5, e6, h.lt⟩
theorem fieldsF : Try.prog.underlying 35 = some (.struct (Try.prog.fieldsOf 35)) := by kernel_rfl
theorem fieldsU : Try.prog.underlying 33 = some (.struct (Try.prog.fieldsOf 33)) := by kernel_rfl
theorem fieldsO : Try.prog.underlying 31 = some (.struct (Try.prog.fieldsOf 31)) := by kernel_rfl
set_option maxHeartbeats 2000000 in
theorem eqFil (f : Fil) (w : World) : (Op.equalIn 10000 35 (.agg #[.string f.a, .string f.b, .string f.c, .string f.d, .string f.e, .string f.f, .bool f.x]) (.agg #[.string f.a, .string f.b, .string f.c, .string f.d, .string f.e, .string f.f, .bool f.x])).run Try.prog w = .ok true w := by
  have hS := fieldsF
  have hp : Try.prog.stoodInHeld 35 = false := by kernel_rfl
  rw [show (10000 : Nat) = 9999 + 1 from rfl, run_equalIn_struct w 9999 35 _ _ hS hp]
  simp only [Program.fieldsOf, Try.underlying35]
  go_simp
theorem run_neqF (f : Fil) (w : World) : (Go.binOp BinOp.neq 35 (.agg #[.string f.a, .string f.b, .string f.c, .string f.d, .string f.e, .string f.f, .bool f.x]) (.agg #[.string f.a, .string f.b, .string f.c, .string f.d, .string f.e, .string f.f, .bool f.x])).run Try.prog w = .ok (.bool false) w := by
  rw [run_neq_struct, eqFil]; rfl
set_option maxHeartbeats 1000000 in
theorem eqSub (d e f d' e' f' : ByteArray) (w : World) : (Op.equalIn 10000 33 (.agg #[.string d, .string e, .string f]) (.agg #[.string d', .string e', .string f'])).run Try.prog w = .ok (decide (d = d' ∧ e = e' ∧ f = f')) w := by
  have hS := fieldsU
  have hp : Try.prog.stoodInHeld 33 = false := by kernel_rfl
  rw [show (10000 : Nat) = 9999 + 1 from rfl, run_equalIn_struct w 9999 33 _ _ hS hp]
  simp only [Program.fieldsOf, Try.underlying33]
  have tl : ∀ u v : ByteArray, u.toList = v.toList ↔ u = v := fun u v => ⟨toList_inj, fun h => by rw [h]⟩
  go_simp
  repeat' split
  all_goals simp_all
theorem run_neqU (d e f d' e' f' : ByteArray) (z : Bool) (h : decide (d = d' ∧ e = e' ∧ f = f') = z) (w : World) : (Go.binOp BinOp.neq 33 (.agg #[.string d, .string e, .string f]) (.agg #[.string d', .string e', .string f'])).run Try.prog w = .ok (.bool (!z)) w := by
  rw [run_neq_struct, eqSub, h]; rfl
theorem wpList_g {P : Program} {ops : Array Oper} {Q : Exit → Act → World → Prop} {a : Act} {w : World} {rest : List Oper} {o : Oper} (g : Bool) (v : Value) (hw : Region.wanted o (yielded ops a.tmps) = g)
    (hex : g = true → (execOp a.eval o).run P w = .ok (.value v) w) (h : wpList P ops Q rest (a.put o.dst (if g = true then v else undef)) w) : wpList P ops Q (o :: rest) a w := by
  unfold wpList
  cases g
  · rw [if_neg (by rw [hw]; decide)]; exact h
  · rw [if_pos hw]
    refine .inl ?_
    unfold Oper.wp
    rw [hex rfl]; exact h
theorem empty_dec (u : ByteArray) : decide (u = ⟨#[]⟩) = u.toList.isEmpty := by
  cases h : u.toList.isEmpty
  · exact decide_eq_false (ne_empty h)
  · exact decide_eq_true (empty_of h)
theorem takesI_v (f : Fil) (t : Tup) : takesI f t = if takes f t then 1 else 0 := rfl
theorem takes_mul (f g : Fil) (t : Tup) : takesI f t * takesI g t = if takes f t && takes g t then 1 else 0 := by
  unfold takesI
  cases takes f t <;> cases takes g t <;> rfl

theorem orS_le {u v : ByteArray} {n : Nat} (h : u.size ≤ n) (k : v.size ≤ n) : (orS u v).size ≤ n := by unfold orS; split <;> assumption
theorem both_fit {f g : Fil} (h : FitF f) (k : FitF g) : FitF (bothF f g) := by
  obtain ⟨h1, h2, h3, h4, h5, h6⟩ := h
  obtain ⟨k1, k2, k3, k4, k5, k6⟩ := k
  have hU : (orU (f.d, f.e, f.f) (g.d, g.e, g.f)).1.size ≤ maxLen ∧ (orU (f.d, f.e, f.f) (g.d, g.e, g.f)).2.1.size ≤ maxLen ∧ (orU (f.d, f.e, f.f) (g.d, g.e, g.f)).2.2.size ≤ maxLen := by
    unfold orU
    split
    · exact ⟨k4, k5, k6⟩
    · exact ⟨h4, h5, h6⟩
  exact ⟨orS_le h1 k1, orS_le h2 k2, orS_le h3 k3, hU.1, hU.2.1, hU.2.2⟩
attribute [local go_sem ↓] storeVar_fil
attribute [local go_sem] bf_new bf_new1 bf_newo
attribute [local go_sem] run_fil Big.old Big.put Big.drew
set_option maxRecDepth 100000 in
set_option maxHeartbeats 8000000 in
theorem fbth_walk (A : Option Addr) (x : List (Nat × Nat)) (c a0 a1 a2 b0 b1 b2 : Nat) (w : World) (hR : RowN w A x) (hx : x.length ≤ maxLen) (ha0 : a0 < 256) (ha1 : a1 < 256) (hb0 : b0 < 256) (hb1 : b1 < 256) :
    Calls Try.prog 3 #[.agg #[.slice A x.length c], .agg #[.int .u8 a0, .int .u8 a1, .int .u8 a2], .agg #[.int .u8 b0, .int .u8 b1, .int .u8 b2]] w fun e w' => e = .returned (.bool true) ∧ Below w.heap.size w w' := by
  have hmx := mixed
  obtain ⟨f, hf⟩ : ∃ f, ofF a0 a1 a2 = f := ⟨_, rfl⟩
  obtain ⟨g, hg⟩ : ∃ g, ofF b0 b1 b2 = g := ⟨_, rfl⟩
  have HFF : Hid (FitF f) := hid (by rw [← hf]; exact (ofF_small _ _ _).fit)
  have HGF : Hid (FitF g) := hid (by rw [← hg]; exact (ofF_small _ _ _).fit)
  have HFC : Hid (fchk f = 0) := hid (by rw [← hf]; exact ofF_chk _ _ _)
  have HGC : Hid (fchk g = 0) := hid (by rw [← hg]; exact ofF_chk _ _ _)
  have HO1 := hid (fun W => (ofF_v a0 a1 a2 f W ha0 ha1 hf).mono fun _ _ h => And.intro h.1 h.2.toBelow)
  have HO2 := hid (fun W => (ofF_v b0 b1 b2 g W hb0 hb1 hg).mono fun _ _ h => And.intro h.1 h.2.toBelow)
  clear hf hg
  obtain ⟨A1, hA1⟩ : ∃ A1, (((w.alloc (.cells #[.slice A x.length c] 24 (0, 0))).alloc (.cells #[.int .u8 a0, .int .u8 a1, .int .u8 a2] 27 (0, 0))).alloc (.cells #[.int .u8 b0, .int .u8 b1, .int .u8 b2] 27 (0, 0))) = A1 := ⟨_, rfl⟩
  have hA : Grew w A1 := by rw [← hA1]; exact gw_alloc (gw_alloc (gw_alloc gw_refl _) _) _
  have hM8 : A1.cell? ⟨w.heap.size + 1, 0, none⟩ = some (.int .u8 a0) ∧ A1.cell? ⟨w.heap.size + 1, 1, none⟩ = some (.int .u8 a1) ∧ A1.cell? ⟨w.heap.size + 1, 2, none⟩ = some (.int .u8 a2) ∧ A1.cell? ⟨w.heap.size + 1 + 1, 0, none⟩ = some (.int .u8 b0) ∧ A1.cell? ⟨w.heap.size + 1 + 1, 1, none⟩ = some (.int .u8 b1) ∧ A1.cell? ⟨w.heap.size + 1 + 1, 2, none⟩ = some (.int .u8 b2) := by
    have m1 := new_at (w.alloc (.cells #[.slice A x.length c] 24 (0, 0))) (.cells #[.int .u8 a0, .int .u8 a1, .int .u8 a2] 27 (0, 0))
    rw [show (w.alloc (.cells #[.slice A x.length c] 24 (0, 0))).heap.size = w.heap.size + 1 by simp] at m1
    have m2 := new_old (o := (.cells #[.int .u8 b0, .int .u8 b1, .int .u8 b2] 27 (0, 0))) m1
    have m3 := new_at ((w.alloc (.cells #[.slice A x.length c] 24 (0, 0))).alloc (.cells #[.int .u8 a0, .int .u8 a1, .int .u8 a2] 27 (0, 0))) (.cells #[.int .u8 b0, .int .u8 b1, .int .u8 b2] 27 (0, 0))
    rw [show ((w.alloc (.cells #[.slice A x.length c] 24 (0, 0))).alloc (.cells #[.int .u8 a0, .int .u8 a1, .int .u8 a2] 27 (0, 0))).heap.size = w.heap.size + 1 + 1 by simp] at m3
    rw [hA1] at m2 m3
    have c2 := fun j => box_cell m2 j
    have c3 := fun j => box_cell m3 j
    exact ⟨(c2 0).trans rfl, (c2 1).trans rfl, (c2 2).trans rfl, (c3 0).trans rfl, (c3 1).trans rfl, (c3 2).trans rfl⟩
  have HS := hid (of_any A x c A1 (hR.gw hA) hx)
  have HA := hid hA.toBelow
  have HC := hid hM8
  have HLN := hid (ofT_len x)
  generalize ofT x = l at *
  clear hA hM8 hR hx
  subst hA1
  go_enter Try.func3, Try.ntmps3
  go_wp2_with fail
  generalize hq : w.heap.size = q at *
  have HQ := hid hq
  generalize (((w.alloc (.cells #[.slice A x.length c] 24 (0, 0))).alloc (.cells #[.int .u8 a0, .int .u8 a1, .int .u8 a2] 27 (0, 0))).alloc (.cells #[.int .u8 b0, .int .u8 b1, .int .u8 b2] 27 (0, 0))) = A1 at *
  clear hq
  refine HS.out.mono ?_
  rintro _ w1 ⟨v1, rfl, hown, hgw⟩
  obtain ⟨A2, c2, rfl, hR2, -, -⟩ := hown.row
  have HR := hid hR2
  have hB := hgw.toBelow
  have HB := hid hB
  have HC1 := hid (kpn6 hB HC.out)
  have HQ3 : Hid (q + 1 + 1 < w1.heap.size) := hid (World.block_lt_of_cell? _ _ HC1.out.2.2.2.1)
  clear hown hgw hR2 hB HC HS
  go_wp2_with fail
  go_cut [8, 9] (fun s s' wx => ∃ p p', s = .pointer (some ⟨p, 0, none⟩) ∧ s' = .pointer (some ⟨p', 0, none⟩) ∧ ¬ p = p' ∧ w1.heap.size ≤ p ∧ w1.heap.size ≤ p' ∧ Blk wx p 35 #[.string f.a, .string f.b, .string f.c, .string f.d, .string f.e, .string f.f, .bool f.x] ∧ Blk wx p' 35 #[.string g.a, .string g.b, .string g.c, .string g.d, .string g.e, .string g.f, .bool g.x] ∧ Below w1.heap.size w1 wx)
  case first => as_aux_lemma =>
    --[r2
    have hS : w1.drew.cell? ⟨q + 1, 0, none⟩ = some (.int .u8 a0) ∧ w1.drew.cell? ⟨q + 1, 1, none⟩ = some (.int .u8 a1) ∧ w1.drew.cell? ⟨q + 1, 2, none⟩ = some (.int .u8 a2) ∧ w1.drew.cell? ⟨q + 1 + 1, 0, none⟩ = some (.int .u8 b0) ∧ w1.drew.cell? ⟨q + 1 + 1, 1, none⟩ = some (.int .u8 b1) ∧ w1.drew.cell? ⟨q + 1 + 1, 2, none⟩ = some (.int .u8 b2) := kpn6 (g_drew (g_refl (a := w1))) HC1.out
    have hq3 : q + 1 + 1 < w1.heap.size := HQ3.out
    clear HC1 HQ3 HFF HGF HFC HGC HLN HR HB HQ HA hmx
    go_region_held3 (fun w' => w'.cell? ⟨q + 1, 0, none⟩ = some (.int .u8 a0) ∧ w'.cell? ⟨q + 1, 1, none⟩ = some (.int .u8 a1) ∧ w'.cell? ⟨q + 1, 2, none⟩ = some (.int .u8 a2) ∧ w'.cell? ⟨q + 1 + 1, 0, none⟩ = some (.int .u8 b0) ∧ w'.cell? ⟨q + 1 + 1, 1, none⟩ = some (.int .u8 b1) ∧ w'.cell? ⟨q + 1 + 1, 2, none⟩ = some (.int .u8 b2))
      (first | with_reducible assumption | (with_reducible refine kpp6 ?_ ?_ ?_ ?_ ?_ ?_ (by with_reducible assumption) <;> omega) | with_reducible exact kpn6 (g_alloc g_refl _) (by with_reducible assumption) | with_reducible exact kpn6 (by with_reducible assumption) (by with_reducible assumption))
      (first
      | (go_at_call 7; (with_reducible refine Calls.mono (HO1.out _) ?_); rintro _ x1 ⟨rfl, hc1⟩
         (try with_reducible (first | have hT := Big.below (Big.drew (bf_new1 _ _)) hc1 | have hT := Big.below (Big.drew (bf_new _)) hc1 | have hT := Big.below (bf_new1 _ _) hc1 | have hT := Big.below (bf_new _) hc1))
         (try with_reducible (first | have hF := Big.below (Big.drew (Big.old (bf_new _) _)) hc1 | have hF := Big.below (Big.old (bf_new _) _) hc1))
         have hz1 := hc1.size; (try simp at hz1); have hz1' : w1.heap.size ≤ x1.heap.size := by omega)
      | (go_at_call 7; (with_reducible refine Calls.mono (HO2.out _) ?_); rintro _ x2 ⟨rfl, hc2⟩
         (try with_reducible (first | have hhT := Big.below hT hc2 | have hhT := Big.below (Big.old hT _) hc2))
         (try with_reducible (first | have hhF := Big.below hF hc2 | have hhF := Big.below (bf_new1 _ _) hc2 | have hhF := Big.below (bf_new _) hc2))
         (try with_reducible (have hhG := Big.below (Big.old (bf_new _) _) hc2))
         (try have ho1 := fun o => hhT.old o); (try have ho2 := fun o => hhF.old o); (try have ho3 := fun o => hhG.old o)
         have hz2 := hc2.size; (try simp at hz2); have hz2' : x1.heap.size ≤ x2.heap.size := by omega))
    all_goals
      go_wp2_with fail
      go_meet
      (try have hl1 := hhT.lt); (try have hl2 := hhF.lt); (try have hl3 := hT.lt); (try have hl4 := hF.lt); (try have hl5 := hhG.lt)
      first
        | with_reducible refine ends_a (n1 := 7) (n2 := 7) ?_ ?_ ?_ rfl rfl ?_ ?_ ?_
          · repeat (first | with_reducible exact g_refl | with_reducible refine g_alloc ?_ _ | with_reducible refine g_drew ?_ | with_reducible refine g_trans ?_ hc2 | with_reducible refine g_trans ?_ hc1)
          · repeat (first | (with_reducible assumption) | with_reducible exact bf_new _ | with_reducible exact bf_new1 _ _ | with_reducible exact bf_newo _ _ | with_reducible refine Big.old ?_ _)
          · repeat (first | (with_reducible assumption) | with_reducible exact bf_new _ | with_reducible exact bf_new1 _ _ | with_reducible exact bf_newo _ _ | with_reducible refine Big.old ?_ _)
          · omega
          · omega
          · omega
        | with_reducible refine ends_b (n1 := 7) ?_ ?_ rfl rfl ?_
          · repeat (first | with_reducible exact g_refl | with_reducible refine g_alloc ?_ _ | with_reducible refine g_drew ?_ | with_reducible refine g_trans ?_ hc2 | with_reducible refine g_trans ?_ hc1)
          · repeat (first | (with_reducible assumption) | with_reducible exact bf_new _ | with_reducible exact bf_new1 _ _ | with_reducible exact bf_newo _ _ | with_reducible refine Big.old ?_ _)
          · omega
    --]r2
  case rest =>
    --[rest
    obtain ⟨p, p', rfl, rfl, hpp, hp, hp', hbf, hbg, hb2⟩ := hcut
    clear hpp hp hp' HC1 HQ3 HO1 HO2
    -- the filter of both
    obtain ⟨z, hz⟩ : ∃ z, clash f g = z := ⟨_, rfl⟩
    obtain ⟨r, hr⟩ : ∃ r : Fil, (if z then zF else bothF f g) = r := ⟨_, rfl⟩
    have HR1 : Hid (bothR f g = (r, !z, 0)) := hid (by
      have h0 : orI (fchk f) (fchk g) = 0 := by rw [HFC.out, HGC.out]; rfl
      cases z
      · rw [bothR_yes h0 hz, ← hr]; rfl
      · rw [bothR_no h0 hz, ← hr]; rfl)
    have HR2 := hid (both_self HFC.out)
    have HRF : Hid (FitF r) := hid (by
      rw [← hr]
      cases z
      · exact both_fit HFF.out HGF.out
      · exact ⟨Nat.zero_le _, Nat.zero_le _, Nat.zero_le _, Nat.zero_le _, Nat.zero_le _, Nat.zero_le _⟩)
    have HRC : Hid (z = false → fchk r = 0) := hid (fun e => by
      subst e; rw [← hr]; exact both_chk HFC.out HGC.out hz)
    have HRZ : Hid (z = true → r = zF) := hid (fun e => by subst e; rw [← hr]; rfl)
    have HTK : Hid (∀ t, z = false → takesI r t = takesI f t * takesI g t) := hid (fun t e => by
      subst e; rw [← hr, takes_mul]; show takesI (bothF f g) t = _; unfold takesI; rw [both_takes HFC.out HGC.out hz])
    have HTZ : Hid (∀ t, z = true → takesI f t * takesI g t = 0) := hid (fun t e => by
      subst e; rw [takes_mul, clash_takes hz]; rfl)
    have HZ := hid hz
    have HBF := hid hbf
    have HBG := hid hbg
    have HRR := hid (HR.out.below hb2)
    have HBB := hid (g_trans HB.out hb2)
    clear hr hz hbf hbg hb2 HR HB HFC HGC
    obtain ⟨e0, e1, e2, e3, e4, e5, e6⟩ := HBF.out.fil
    obtain ⟨d0, d1, d2, d3, d4, d5, d6⟩ := HBG.out.fil
    go_upto_region 3 with fail
    go_cut [10, 11, 12] (fun s u m wx => ∃ p3, s = .pointer (some ⟨p3, 0, none⟩) ∧ u = .bool (!z) ∧ m = .int .i64 0 ∧ Blk wx p3 35 #[.string r.a, .string r.b, .string r.c, .string r.d, .string r.e, .string r.f, .bool r.x] ∧ Below wc.heap.size wc wx)
    case first => as_aux_lemma =>
      --[r3
      go_wp2_with fail
      refine (both_v f g r.a r.b r.c r.d r.e r.f r.x (!z) 0 _ HFF.out HGF.out HR1.out).mono ?_
      rintro _ w3 ⟨rfl, hw3⟩
      go_wp2_with fail
      go_meet
      exact ⟨_, rfl, rfl, rfl, Big.same (bf_new _) _ rfl, g_put (g_alloc hw3 _) hw3.size _⟩
      --]r3
    case rest =>
      obtain ⟨p3, rfl, rfl, rfl, hb3, hb⟩ := hcut
      have HBF3 := hid (HBF.out.below hb)
      have HBG3 := hid (HBG.out.below hb)
      have HRR3 := hid (HRR.out.below hb)
      have HBB3 := hid (g_trans HBB.out hb)
      have HB3 := hid hb3
      clear hb hb3 e0 e1 e2 e3 e4 e5 e6 d0 d1 d2 d3 d4 d5 d6 HBF HBG HRR HBB HR1
      obtain ⟨e0, e1, e2, e3, e4, e5, e6⟩ := HBF3.out.fil
      go_upto_region 4 with fail
      go_cut [13, 14, 15] (fun s u m wx => ∃ p4, s = .pointer (some ⟨p4, 0, none⟩) ∧ u = .bool true ∧ m = .int .i64 0 ∧ Blk wx p4 35 #[.string f.a, .string f.b, .string f.c, .string f.d, .string f.e, .string f.f, .bool f.x] ∧ Below wc.heap.size wc wx)
      case first => as_aux_lemma =>
        --[r4
        go_wp2_with fail
        refine (both_v f f f.a f.b f.c f.d f.e f.f f.x true 0 _ HFF.out HFF.out HR2.out).mono ?_
        rintro _ w3 ⟨rfl, hw3⟩
        go_wp2_with fail
        go_meet
        exact ⟨_, rfl, rfl, rfl, Big.same (bf_new _) _ rfl, g_put (g_alloc hw3 _) hw3.size _⟩
        --]r4
      case rest =>
        obtain ⟨p4, rfl, rfl, rfl, hb4, hb⟩ := hcut
        have HBF := hid (HBF3.out.below hb)
        have HBG := hid (HBG3.out.below hb)
        have HRR := hid (HRR3.out.below hb)
        have HBB := hid (g_trans HBB3.out hb)
        have HB3' := hid (HB3.out.below hb)
        have HB4 := hid hb4
        clear hb hb4 e0 e1 e2 e3 e4 e5 e6 HBF3 HBG3 HRR3 HBB3 HR2 HB3
        go_upto_region 5 with fail
        go_cut [68] (fun u wx => u = .bool false ∧ Below wc.heap.size wc wx)
        case first => as_aux_lemma =>
          --[r5
          obtain ⟨e0, e1, e2, e3, e4, e5, e6⟩ := HBF.out.fil
          obtain ⟨d0, d1, d2, d3, d4, d5, d6⟩ := HB3'.out.fil
          obtain ⟨c0, c1, c2, c3, c4, c5, c6⟩ := HB4.out.fil
          have hne := run_neqF f
          cases z
          · have hc := HRC.out rfl
            go_wp2_with fail
            refine (rfcheck_v r.a r.b r.c r.d r.e r.f r.x 0 _ HRF.out hc).mono ?_
            rintro _ w5 ⟨rfl, hw5⟩
            go_wp2_with fail
            go_meet
            exact ⟨rfl, hw5⟩
          · have hr := HRZ.out rfl
            subst hr
            have hnz := run_neqF zF
            simp only [zF] at hnz d0 d1 d2 d3 d4 d5 d6
            go_wp2_with fail
            go_meet
            exact ⟨rfl, g_refl⟩
          --]r5
        case rest =>
          obtain ⟨rfl, hb⟩ := hcut
          have HBF5 := hid (HBF.out.below hb)
          have HBG5 := hid (HBG.out.below hb)
          have HRR5 := hid (HRR.out.below hb)
          have HBB5 := hid (g_trans HBB.out hb)
          have HB35 := hid (HB3'.out.below hb)
          clear hb HBF HBG HRR HBB HB3' HB4 HRC HRZ HRF HFF HGF
          have hln := HLN.out
          go_wp2
          go_loopw [16] (fun i wr => ∃ j : Nat, j ≤ l.length ∧ i = .int .i64 j ∧ Below wc.heap.size wc wr) (fun i _ => l.length - (intOf i).toNat)
          case atStart => exact ⟨0, Nat.zero_le _, rfl, g_refl⟩
          case round =>
            obtain ⟨j, hj, rfl, hw⟩ := hrel
            have HBF := hid (HBF5.out.below hw)
            have HBG := hid (HBG5.out.below hw)
            have HB3 := hid (HB35.out.below hw)
            have HRR := hid (HRR5.out.below hw)
            have HBB := hid (g_trans HBB5.out hw)
            have HW := hid hw
            clear hw
            by_cases hlt : j < l.length
            ·
              --[round
              have i1 : (j : Int) < (l.length : Int) := by omega
              have i2 : (0 : Int) ≤ (j : Int) := by omega
              obtain ⟨bb, o, rfl, hL⟩ := HRR.out.at_ hlt
              have hsx := hL.six hlt
              obtain ⟨t, ht⟩ : ∃ t, l[j] = t := ⟨_, rfl⟩
              simp only [ht] at hsx
              have HSX := hid hsx
              have HT := hid ht
              clear HBF5 HBG5 HRR5 HBB5 HB35 HBB hL hsx ht
              obtain ⟨m, hm⟩ : ∃ m, takesI f t * takesI g t = m := ⟨_, rfl⟩
              have HM1 : Hid (z = false → takesI r t = m) := hid (fun e => by rw [HTK.out t e, hm])
              have HM2 : Hid (z = true → m = 0) := hid (fun e => by rw [← hm, HTZ.out t e])
              have HM := hid hm
              clear hm HTK HTZ
              go_upto_region 10 with fail
              go_cut [17] (fun u wx => u = .int .i64 m ∧ Below wr.heap.size wr wx)
              case first =>
                --[r10
                obtain ⟨x0, x1, x2, x3, x4, x5⟩ := HSX.out
                obtain ⟨e0, e1, e2, e3, e4, e5, e6⟩ := (Go.Proofs.Ytgfgfggoofjeeaa.FB.grown HBF.out.fb)
                obtain ⟨d0, d1, d2, d3, d4, d5, d6⟩ := (Go.Proofs.Ytgfgfggoofjeeaa.FB.grown HBG.out.fb)
                obtain ⟨u, hu⟩ : ∃ u, takesI f t = u := ⟨_, rfl⟩
                obtain ⟨v, hv⟩ : ∃ v, takesI g t = v := ⟨_, rfl⟩
                have q1 := fun n os => rtakes_qa f t u hu wr n os
                have q2 := fun n os => rtakes_qa g t v hv wr n os
                have h1 : u = 0 ∨ u = 1 := by rw [← hu]; unfold takesI; split <;> simp
                have h2 : v = 0 ∨ v = 1 := by rw [← hv]; unfold takesI; split <;> simp
                have hm : u * v = m := by rw [← hu, ← hv]; exact HM.out
                have key : (u = 0 ∧ v = 0 ∧ m = 0) ∨ (u = 0 ∧ v = 1 ∧ m = 0) ∨ (u = 1 ∧ v = 0 ∧ m = 0) ∨ (u = 1 ∧ v = 1 ∧ m = 1) := by
                  rcases h1 with h | h <;> rcases h2 with h' | h' <;> rw [h, h'] at hm <;> simp at hm <;> simp [h, h', ← hm]
                clear hu hv HM HM1 HM2 HZ HLN HSX HB3 HBF HBG HW HRR HT h1 h2 hm
                rcases key with ⟨rfl, rfl, rfl⟩ | ⟨rfl, rfl, rfl⟩ | ⟨rfl, rfl, rfl⟩ | ⟨rfl, rfl, rfl⟩
                all_goals
                  go_quiet_grown (first | (go_at_call 10; with_reducible exact q1 _ _) | (go_at_call 10; with_reducible exact q2 _ _))
                  go_wp2_with fail
                  go_meet
                  exact ⟨rfl, (gw_grow (gw_drewN gw_refl _) _).toBelow⟩
                --]r10
              case rest =>
                obtain ⟨rfl, hb⟩ := hcut
                have HB3c := hid (HB3.out.below hb)
                obtain ⟨bb', o', e', hL'⟩ := (HRR.out.below hb).at_ hlt
                obtain ⟨rfl, rfl⟩ : bb = bb' ∧ o = o' := by simpa using e'
                have hsx := hL'.six hlt
                simp only [HT.out] at hsx
                have HSY := hid hsx
                have HWc := hid (g_trans HW.out hb)
                clear HB3 HBF HBG HW HM HSX hsx hL' e' HRR HT hb
                go_upto_region 11 with fail
                go_cut [106] (fun u wx => u = .bool false ∧ Below wc.heap.size wc wx)
                case first =>
                  --[r11
                  obtain ⟨x0, x1, x2, x3, x4, x5⟩ := HSY.out
                  obtain ⟨c0, c1, c2, c3, c4, c5, c6⟩ := (Go.Proofs.Ytgfgfggoofjeeaa.FB.grown HB3c.out.fb)
                  cases z
                  · have hm := HM1.out rfl
                    have h2 : m = 0 ∨ m = 1 := by rw [← hm]; unfold takesI; split <;> simp
                    have q3 := fun n os => rtakes_qa r t m hm wc n os
                    clear hm HM1 HM2 HSY HB3c HZ HLN HWc
                    simp only [Bool.not_false]
                    rcases h2 with rfl | rfl
                    all_goals
                      refine wp_region_quiet_grown (by assumption) (by kernel_rfl) ?_
                      repeat (quiet_step (first | (go_at_call 10; exact q3 _ _)))
                      (try (iterate 2 ((with_reducible refine BigFrame.wpQuiet_skip ?_ ?_); (focus kernel_rfl); simp only [Act.put, List.setIfInBounds_toArray, List.set_cons_zero, List.set_cons_succ])))
                      repeat (quiet_step (fail))
                      refine wpQuiet_nil ?_
                      rintro _ ⟨⟨nq, osq⟩, rfl⟩
                      go_wp2_with fail
                      go_meet
                      exact ⟨rfl, (gw_grow (gw_drewN gw_refl _) _).toBelow⟩
                  · obtain rfl := HM2.out rfl
                    clear HM1 HM2 HSY HB3c HZ HLN HWc
                    simp only [Bool.not_true]
                    refine wp_region_quiet_grown (by assumption) (by kernel_rfl) ?_
                    iterate 2 (quiet_step (fail))
                    iterate 8 ((with_reducible refine BigFrame.wpQuiet_skip ?_ ?_); (focus kernel_rfl); simp only [Act.put, List.setIfInBounds_toArray, List.set_cons_zero, List.set_cons_succ])
                    repeat (quiet_step (fail))
                    refine wpQuiet_nil ?_
                    rintro _ ⟨⟨nq, osq⟩, rfl⟩
                    go_wp2_with fail
                    go_meet
                    exact ⟨rfl, (gw_grow (gw_drewN gw_refl _) _).toBelow⟩
                  --]r11
                case rest =>
                  obtain ⟨rfl, hb'⟩ := hcut
                  go_wp2
                  go_roundw
                  case rel => exact ⟨j + 1, by omega, by go_num, g_trans HWc.out hb'⟩
                  case measure => simp [intOf]; omega
              --]round
            ·
              --[end
              have i1 : ¬ (j : Int) < (l.length : Int) := by omega
              clear HBF5 HBG5 HRR5 HBB5 HB35 HRR HB3 HW HTK HTZ HLN
              go_upto_region 13 with fail
              go_cut [18] (fun u wx => u = .bool z ∧ wx = wr)
              case first =>
                --[r13
                obtain ⟨e0, e1, e2, e3, e4, e5, e6⟩ := HBF.out.fil
                obtain ⟨y0, y1, y2, y3, y4, y5, y6⟩ := HBG.out.fil
                have hz := HZ.out
                clear HBF HBG HBB HZ hlt i1 hj
                obtain ⟨pa, hpa⟩ : ∃ z, (!decide (f.a = ⟨#[]⟩)) = z := ⟨_, rfl⟩
                obtain ⟨qa, hqa⟩ : ∃ z, (!decide (g.a = ⟨#[]⟩)) = z := ⟨_, rfl⟩
                obtain ⟨na, hna⟩ : ∃ z, (!decide (f.a = g.a)) = z := ⟨_, rfl⟩
                have kpa : f.a.toList.isEmpty = !pa := by rw [← empty_dec, ← hpa, Bool.not_not]
                have kqa : g.a.toList.isEmpty = !qa := by rw [← empty_dec, ← hqa, Bool.not_not]
                have kna : (f.a.toList == g.a.toList) = !na := by rw [toList_beq, ← hna, Bool.not_not]
                obtain ⟨pb, hpb⟩ : ∃ z, (!decide (f.b = ⟨#[]⟩)) = z := ⟨_, rfl⟩
                obtain ⟨qb, hqb⟩ : ∃ z, (!decide (g.b = ⟨#[]⟩)) = z := ⟨_, rfl⟩
                obtain ⟨nb, hnb⟩ : ∃ z, (!decide (f.b = g.b)) = z := ⟨_, rfl⟩
                have kpb : f.b.toList.isEmpty = !pb := by rw [← empty_dec, ← hpb, Bool.not_not]
                have kqb : g.b.toList.isEmpty = !qb := by rw [← empty_dec, ← hqb, Bool.not_not]
                have knb : (f.b.toList == g.b.toList) = !nb := by rw [toList_beq, ← hnb, Bool.not_not]
                obtain ⟨pc, hpc⟩ : ∃ z, (!decide (f.c = ⟨#[]⟩)) = z := ⟨_, rfl⟩
                obtain ⟨qc, hqc⟩ : ∃ z, (!decide (g.c = ⟨#[]⟩)) = z := ⟨_, rfl⟩
                obtain ⟨nc, hnc⟩ : ∃ z, (!decide (f.c = g.c)) = z := ⟨_, rfl⟩
                have kpc : f.c.toList.isEmpty = !pc := by rw [← empty_dec, ← hpc, Bool.not_not]
                have kqc : g.c.toList.isEmpty = !qc := by rw [← empty_dec, ← hqc, Bool.not_not]
                have knc : (f.c.toList == g.c.toList) = !nc := by rw [toList_beq, ← hnc, Bool.not_not]
                obtain ⟨fx, hfx⟩ : ∃ x, f.x = x := ⟨_, rfl⟩
                obtain ⟨gx, hgx⟩ : ∃ x, g.x = x := ⟨_, rfl⟩
                obtain ⟨v, hv⟩ : ∃ v, decide (f.d = g.d ∧ f.e = g.e ∧ f.f = g.f) = v := ⟨_, rfl⟩
                obtain ⟨nu, hnu'⟩ : ∃ u, (!v) = u := ⟨_, rfl⟩
                have knu := run_neqU f.d f.e f.f g.d g.e g.f v hv
                rw [hnu'] at knu
                rw [hfx] at e6
                rw [hgx] at y6
                have HCL : Hid (z = (((pa && qa && na) || (pb && qb && nb)) || (pc && qc && nc) || (fx && gx && nu))) := hid (by rw [← hz, ← hpa, ← hqa, ← hna, ← hpb, ← hqb, ← hnb, ← hpc, ← hqc, ← hnc, ← hnu', ← hv, ← hfx, ← hgx]; unfold clash clF; simp only [empty_dec])
                clear hpa hqa hna hpb hqb hnb hpc hqc hnc hfx hgx hv hnu' hz
                apply wp_region_lit
                refine wpList_g (true) (.pointer (some ⟨p, 0, none⟩)) rfl (fun _ => by go_simp) ?_
                simp only [Act.put, List.setIfInBounds_toArray, List.set_cons_zero, List.set_cons_succ, if_true]
                refine wpList_g (true) (.string f.a) rfl (fun _ => by go_simp) ?_
                simp only [Act.put, List.setIfInBounds_toArray, List.set_cons_zero, List.set_cons_succ, if_true]
                refine wpList_g (true) (.bool pa) rfl (fun _ => by go_simp) ?_
                simp only [Act.put, List.setIfInBounds_toArray, List.set_cons_zero, List.set_cons_succ, if_true]
                refine wpList_g (true) (.bool pa) rfl (fun _ => by go_simp) ?_
                simp only [Act.put, List.setIfInBounds_toArray, List.set_cons_zero, List.set_cons_succ, if_true]
                refine wpList_g (pa) (.pointer (some ⟨p', 0, none⟩)) (by cases pa <;> rfl) (by intro hg; cases pa <;> first | (exact absurd hg (by decide)) | go_simp) ?_
                simp only [Act.put, List.setIfInBounds_toArray, List.set_cons_zero, List.set_cons_succ]
                refine wpList_g (pa) (.string g.a) (by cases pa <;> rfl) (by intro hg; cases pa <;> first | (exact absurd hg (by decide)) | go_simp) ?_
                simp only [Act.put, List.setIfInBounds_toArray, List.set_cons_zero, List.set_cons_succ]
                refine wpList_g (pa) (.bool qa) (by cases pa <;> rfl) (by intro hg; cases pa <;> first | (exact absurd hg (by decide)) | go_simp) ?_
                simp only [Act.put, List.setIfInBounds_toArray, List.set_cons_zero, List.set_cons_succ]
                refine wpList_g (true) (.bool (pa && qa)) rfl (fun _ => by cases pa <;> cases qa <;> go_simp) ?_
                simp only [Act.put, List.setIfInBounds_toArray, List.set_cons_zero, List.set_cons_succ, if_true]
                refine wpList_g (true) (.bool (pa && qa)) rfl (fun _ => by go_simp) ?_
                simp only [Act.put, List.setIfInBounds_toArray, List.set_cons_zero, List.set_cons_succ, if_true]
                refine wpList_g ((pa && qa)) (.pointer (some ⟨p, 0, none⟩)) (by cases pa <;> cases qa <;> rfl) (by intro hg; cases pa <;> cases qa <;> first | (exact absurd hg (by decide)) | go_simp) ?_
                simp only [Act.put, List.setIfInBounds_toArray, List.set_cons_zero, List.set_cons_succ]
                refine wpList_g ((pa && qa)) (.string f.a) (by cases pa <;> cases qa <;> rfl) (by intro hg; cases pa <;> cases qa <;> first | (exact absurd hg (by decide)) | go_simp) ?_
                simp only [Act.put, List.setIfInBounds_toArray, List.set_cons_zero, List.set_cons_succ]
                refine wpList_g ((pa && qa)) (.pointer (some ⟨p', 0, none⟩)) (by cases pa <;> cases qa <;> rfl) (by intro hg; cases pa <;> cases qa <;> first | (exact absurd hg (by decide)) | go_simp) ?_
                simp only [Act.put, List.setIfInBounds_toArray, List.set_cons_zero, List.set_cons_succ]
                refine wpList_g ((pa && qa)) (.string g.a) (by cases pa <;> cases qa <;> rfl) (by intro hg; cases pa <;> cases qa <;> first | (exact absurd hg (by decide)) | go_simp) ?_
                simp only [Act.put, List.setIfInBounds_toArray, List.set_cons_zero, List.set_cons_succ]
                refine wpList_g ((pa && qa)) (.bool na) (by cases pa <;> cases qa <;> rfl) (by intro hg; cases pa <;> cases qa <;> first | (exact absurd hg (by decide)) | go_simp) ?_
                simp only [Act.put, List.setIfInBounds_toArray, List.set_cons_zero, List.set_cons_succ]
                refine wpList_g (true) (.bool (pa && qa && na)) rfl (fun _ => by cases pa <;> cases qa <;> cases na <;> go_simp) ?_
                simp only [Act.put, List.setIfInBounds_toArray, List.set_cons_zero, List.set_cons_succ, if_true]
                refine wpList_g (true) (.bool (pa && qa && na)) rfl (fun _ => by go_simp) ?_
                simp only [Act.put, List.setIfInBounds_toArray, List.set_cons_zero, List.set_cons_succ, if_true]
                obtain ⟨ca, hca⟩ : ∃ z, (pa && qa && na) = z := ⟨_, rfl⟩
                rw [hca]
                have Hca := hid hca
                clear hca
                refine wpList_g (!ca) (.pointer (some ⟨p, 1, none⟩)) (by cases ca <;> rfl) (by intro hg; cases ca <;> first | (exact absurd hg (by decide)) | go_simp) ?_
                simp only [Act.put, List.setIfInBounds_toArray, List.set_cons_zero, List.set_cons_succ]
                refine wpList_g (!ca) (.string f.b) (by cases ca <;> rfl) (by intro hg; cases ca <;> first | (exact absurd hg (by decide)) | go_simp) ?_
                simp only [Act.put, List.setIfInBounds_toArray, List.set_cons_zero, List.set_cons_succ]
                refine wpList_g (!ca) (.bool pb) (by cases ca <;> rfl) (by intro hg; cases ca <;> first | (exact absurd hg (by decide)) | go_simp) ?_
                simp only [Act.put, List.setIfInBounds_toArray, List.set_cons_zero, List.set_cons_succ]
                refine wpList_g (!ca) (.bool pb) (by cases ca <;> rfl) (by intro hg; cases ca <;> first | (exact absurd hg (by decide)) | go_simp) ?_
                simp only [Act.put, List.setIfInBounds_toArray, List.set_cons_zero, List.set_cons_succ]
                refine wpList_g (!ca && pb) (.pointer (some ⟨p', 1, none⟩)) (by cases ca <;> cases pb <;> rfl) (by intro hg; cases ca <;> cases pb <;> first | (exact absurd hg (by decide)) | go_simp) ?_
                simp only [Act.put, List.setIfInBounds_toArray, List.set_cons_zero, List.set_cons_succ]
                refine wpList_g (!ca && pb) (.string g.b) (by cases ca <;> cases pb <;> rfl) (by intro hg; cases ca <;> cases pb <;> first | (exact absurd hg (by decide)) | go_simp) ?_
                simp only [Act.put, List.setIfInBounds_toArray, List.set_cons_zero, List.set_cons_succ]
                refine wpList_g (!ca && pb) (.bool qb) (by cases ca <;> cases pb <;> rfl) (by intro hg; cases ca <;> cases pb <;> first | (exact absurd hg (by decide)) | go_simp) ?_
                simp only [Act.put, List.setIfInBounds_toArray, List.set_cons_zero, List.set_cons_succ]
                refine wpList_g (!ca) (.bool (pb && qb)) (by cases ca <;> rfl) (by intro hg; cases ca <;> cases pb <;> cases qb <;> first | (exact absurd hg (by decide)) | go_simp) ?_
                simp only [Act.put, List.setIfInBounds_toArray, List.set_cons_zero, List.set_cons_succ]
                refine wpList_g (!ca) (.bool (pb && qb)) (by cases ca <;> rfl) (by intro hg; cases ca <;> first | (exact absurd hg (by decide)) | go_simp) ?_
                simp only [Act.put, List.setIfInBounds_toArray, List.set_cons_zero, List.set_cons_succ]
                refine wpList_g (!ca && (pb && qb)) (.pointer (some ⟨p, 1, none⟩)) (by cases ca <;> cases pb <;> cases qb <;> rfl) (by intro hg; cases ca <;> cases pb <;> cases qb <;> first | (exact absurd hg (by decide)) | go_simp) ?_
                simp only [Act.put, List.setIfInBounds_toArray, List.set_cons_zero, List.set_cons_succ]
                refine wpList_g (!ca && (pb && qb)) (.string f.b) (by cases ca <;> cases pb <;> cases qb <;> rfl) (by intro hg; cases ca <;> cases pb <;> cases qb <;> first | (exact absurd hg (by decide)) | go_simp) ?_
                simp only [Act.put, List.setIfInBounds_toArray, List.set_cons_zero, List.set_cons_succ]
                refine wpList_g (!ca && (pb && qb)) (.pointer (some ⟨p', 1, none⟩)) (by cases ca <;> cases pb <;> cases qb <;> rfl) (by intro hg; cases ca <;> cases pb <;> cases qb <;> first | (exact absurd hg (by decide)) | go_simp) ?_
                simp only [Act.put, List.setIfInBounds_toArray, List.set_cons_zero, List.set_cons_succ]
                refine wpList_g (!ca && (pb && qb)) (.string g.b) (by cases ca <;> cases pb <;> cases qb <;> rfl) (by intro hg; cases ca <;> cases pb <;> cases qb <;> first | (exact absurd hg (by decide)) | go_simp) ?_
                simp only [Act.put, List.setIfInBounds_toArray, List.set_cons_zero, List.set_cons_succ]
                refine wpList_g (!ca && (pb && qb)) (.bool nb) (by cases ca <;> cases pb <;> cases qb <;> rfl) (by intro hg; cases ca <;> cases pb <;> cases qb <;> first | (exact absurd hg (by decide)) | go_simp) ?_
                simp only [Act.put, List.setIfInBounds_toArray, List.set_cons_zero, List.set_cons_succ]
                refine wpList_g (!ca) (.bool (pb && qb && nb)) (by cases ca <;> rfl) (by intro hg; cases ca <;> cases pb <;> cases qb <;> cases nb <;> first | (exact absurd hg (by decide)) | go_simp) ?_
                simp only [Act.put, List.setIfInBounds_toArray, List.set_cons_zero, List.set_cons_succ]
                refine wpList_g (true) (.bool (ca || (pb && qb && nb))) rfl (fun _ => by cases ca <;> cases pb <;> cases qb <;> cases nb <;> go_simp) ?_
                simp only [Act.put, List.setIfInBounds_toArray, List.set_cons_zero, List.set_cons_succ, if_true]
                refine wpList_g (true) (.bool (ca || (pb && qb && nb))) rfl (fun _ => by go_simp) ?_
                simp only [Act.put, List.setIfInBounds_toArray, List.set_cons_zero, List.set_cons_succ, if_true]
                obtain ⟨d1, hd1⟩ : ∃ z, (ca || (pb && qb && nb)) = z := ⟨_, rfl⟩
                rw [hd1]
                have Hd1 := hid hd1
                clear hd1
                refine wpList_g (!d1) (.pointer (some ⟨p, 2, none⟩)) (by cases d1 <;> rfl) (by intro hg; cases d1 <;> first | (exact absurd hg (by decide)) | go_simp) ?_
                simp only [Act.put, List.setIfInBounds_toArray, List.set_cons_zero, List.set_cons_succ]
                refine wpList_g (!d1) (.string f.c) (by cases d1 <;> rfl) (by intro hg; cases d1 <;> first | (exact absurd hg (by decide)) | go_simp) ?_
                simp only [Act.put, List.setIfInBounds_toArray, List.set_cons_zero, List.set_cons_succ]
                refine wpList_g (!d1) (.bool pc) (by cases d1 <;> rfl) (by intro hg; cases d1 <;> first | (exact absurd hg (by decide)) | go_simp) ?_
                simp only [Act.put, List.setIfInBounds_toArray, List.set_cons_zero, List.set_cons_succ]
                refine wpList_g (!d1) (.bool pc) (by cases d1 <;> rfl) (by intro hg; cases d1 <;> first | (exact absurd hg (by decide)) | go_simp) ?_
                simp only [Act.put, List.setIfInBounds_toArray, List.set_cons_zero, List.set_cons_succ]
                refine wpList_g (!d1 && pc) (.pointer (some ⟨p', 2, none⟩)) (by cases d1 <;> cases pc <;> rfl) (by intro hg; cases d1 <;> cases pc <;> first | (exact absurd hg (by decide)) | go_simp) ?_
                simp only [Act.put, List.setIfInBounds_toArray, List.set_cons_zero, List.set_cons_succ]
                refine wpList_g (!d1 && pc) (.string g.c) (by cases d1 <;> cases pc <;> rfl) (by intro hg; cases d1 <;> cases pc <;> first | (exact absurd hg (by decide)) | go_simp) ?_
                simp only [Act.put, List.setIfInBounds_toArray, List.set_cons_zero, List.set_cons_succ]
                refine wpList_g (!d1 && pc) (.bool qc) (by cases d1 <;> cases pc <;> rfl) (by intro hg; cases d1 <;> cases pc <;> first | (exact absurd hg (by decide)) | go_simp) ?_
                simp only [Act.put, List.setIfInBounds_toArray, List.set_cons_zero, List.set_cons_succ]
                refine wpList_g (!d1) (.bool (pc && qc)) (by cases d1 <;> rfl) (by intro hg; cases d1 <;> cases pc <;> cases qc <;> first | (exact absurd hg (by decide)) | go_simp) ?_
                simp only [Act.put, List.setIfInBounds_toArray, List.set_cons_zero, List.set_cons_succ]
                refine wpList_g (!d1) (.bool (pc && qc)) (by cases d1 <;> rfl) (by intro hg; cases d1 <;> first | (exact absurd hg (by decide)) | go_simp) ?_
                simp only [Act.put, List.setIfInBounds_toArray, List.set_cons_zero, List.set_cons_succ]
                refine wpList_g (!d1 && (pc && qc)) (.pointer (some ⟨p, 2, none⟩)) (by cases d1 <;> cases pc <;> cases qc <;> rfl) (by intro hg; cases d1 <;> cases pc <;> cases qc <;> first | (exact absurd hg (by decide)) | go_simp) ?_
                simp only [Act.put, List.setIfInBounds_toArray, List.set_cons_zero, List.set_cons_succ]
                refine wpList_g (!d1 && (pc && qc)) (.string f.c) (by cases d1 <;> cases pc <;> cases qc <;> rfl) (by intro hg; cases d1 <;> cases pc <;> cases qc <;> first | (exact absurd hg (by decide)) | go_simp) ?_
                simp only [Act.put, List.setIfInBounds_toArray, List.set_cons_zero, List.set_cons_succ]
                refine wpList_g (!d1 && (pc && qc)) (.pointer (some ⟨p', 2, none⟩)) (by cases d1 <;> cases pc <;> cases qc <;> rfl) (by intro hg; cases d1 <;> cases pc <;> cases qc <;> first | (exact absurd hg (by decide)) | go_simp) ?_
                simp only [Act.put, List.setIfInBounds_toArray, List.set_cons_zero, List.set_cons_succ]
                refine wpList_g (!d1 && (pc && qc)) (.string g.c) (by cases d1 <;> cases pc <;> cases qc <;> rfl) (by intro hg; cases d1 <;> cases pc <;> cases qc <;> first | (exact absurd hg (by decide)) | go_simp) ?_
                simp only [Act.put, List.setIfInBounds_toArray, List.set_cons_zero, List.set_cons_succ]
                refine wpList_g (!d1 && (pc && qc)) (.bool nc) (by cases d1 <;> cases pc <;> cases qc <;> rfl) (by intro hg; cases d1 <;> cases pc <;> cases qc <;> first | (exact absurd hg (by decide)) | go_simp) ?_
                simp only [Act.put, List.setIfInBounds_toArray, List.set_cons_zero, List.set_cons_succ]
                refine wpList_g (!d1) (.bool (pc && qc && nc)) (by cases d1 <;> rfl) (by intro hg; cases d1 <;> cases pc <;> cases qc <;> cases nc <;> first | (exact absurd hg (by decide)) | go_simp) ?_
                simp only [Act.put, List.setIfInBounds_toArray, List.set_cons_zero, List.set_cons_succ]
                refine wpList_g (true) (.bool (d1 || (pc && qc && nc))) rfl (fun _ => by cases d1 <;> cases pc <;> cases qc <;> cases nc <;> go_simp) ?_
                simp only [Act.put, List.setIfInBounds_toArray, List.set_cons_zero, List.set_cons_succ, if_true]
                refine wpList_g (true) (.bool (d1 || (pc && qc && nc))) rfl (fun _ => by go_simp) ?_
                simp only [Act.put, List.setIfInBounds_toArray, List.set_cons_zero, List.set_cons_succ, if_true]
                obtain ⟨d2, hd2⟩ : ∃ z, (d1 || (pc && qc && nc)) = z := ⟨_, rfl⟩
                rw [hd2]
                have Hd2 := hid hd2
                clear hd2
                refine wpList_g (!d2) (.pointer (some ⟨p, 6, none⟩)) (by cases d2 <;> rfl) (by intro hg; cases d2 <;> first | (exact absurd hg (by decide)) | go_simp) ?_
                simp only [Act.put, List.setIfInBounds_toArray, List.set_cons_zero, List.set_cons_succ]
                refine wpList_g (!d2) (.bool fx) (by cases d2 <;> rfl) (by intro hg; cases d2 <;> first | (exact absurd hg (by decide)) | go_simp) ?_
                simp only [Act.put, List.setIfInBounds_toArray, List.set_cons_zero, List.set_cons_succ]
                refine wpList_g (!d2) (.bool fx) (by cases d2 <;> rfl) (by intro hg; cases d2 <;> first | (exact absurd hg (by decide)) | go_simp) ?_
                simp only [Act.put, List.setIfInBounds_toArray, List.set_cons_zero, List.set_cons_succ]
                refine wpList_g (!d2 && fx) (.pointer (some ⟨p', 6, none⟩)) (by cases d2 <;> cases fx <;> rfl) (by intro hg; cases d2 <;> cases fx <;> first | (exact absurd hg (by decide)) | go_simp) ?_
                simp only [Act.put, List.setIfInBounds_toArray, List.set_cons_zero, List.set_cons_succ]
                refine wpList_g (!d2 && fx) (.bool gx) (by cases d2 <;> cases fx <;> rfl) (by intro hg; cases d2 <;> cases fx <;> first | (exact absurd hg (by decide)) | go_simp) ?_
                simp only [Act.put, List.setIfInBounds_toArray, List.set_cons_zero, List.set_cons_succ]
                refine wpList_g (!d2) (.bool (fx && gx)) (by cases d2 <;> rfl) (by intro hg; cases d2 <;> cases fx <;> cases gx <;> first | (exact absurd hg (by decide)) | go_simp) ?_
                simp only [Act.put, List.setIfInBounds_toArray, List.set_cons_zero, List.set_cons_succ]
                refine wpList_g (!d2) (.bool (fx && gx)) (by cases d2 <;> rfl) (by intro hg; cases d2 <;> first | (exact absurd hg (by decide)) | go_simp) ?_
                simp only [Act.put, List.setIfInBounds_toArray, List.set_cons_zero, List.set_cons_succ]
                refine wpList_g (!d2 && (fx && gx)) (.pointer (some ⟨p, 3, none⟩)) (by cases d2 <;> cases fx <;> cases gx <;> rfl) (by intro hg; cases d2 <;> cases fx <;> cases gx <;> first | (exact absurd hg (by decide)) | go_simp) ?_
                simp only [Act.put, List.setIfInBounds_toArray, List.set_cons_zero, List.set_cons_succ]
                refine wpList_g (!d2 && (fx && gx)) (.agg #[.string f.d, .string f.e, .string f.f]) (by cases d2 <;> cases fx <;> cases gx <;> rfl) (by intro hg; cases d2 <;> cases fx <;> cases gx <;> first | (exact absurd hg (by decide)) | go_simp) ?_
                simp only [Act.put, List.setIfInBounds_toArray, List.set_cons_zero, List.set_cons_succ]
                refine wpList_g (!d2 && (fx && gx)) (.pointer (some ⟨p', 3, none⟩)) (by cases d2 <;> cases fx <;> cases gx <;> rfl) (by intro hg; cases d2 <;> cases fx <;> cases gx <;> first | (exact absurd hg (by decide)) | go_simp) ?_
                simp only [Act.put, List.setIfInBounds_toArray, List.set_cons_zero, List.set_cons_succ]
                refine wpList_g (!d2 && (fx && gx)) (.agg #[.string g.d, .string g.e, .string g.f]) (by cases d2 <;> cases fx <;> cases gx <;> rfl) (by intro hg; cases d2 <;> cases fx <;> cases gx <;> first | (exact absurd hg (by decide)) | go_simp) ?_
                simp only [Act.put, List.setIfInBounds_toArray, List.set_cons_zero, List.set_cons_succ]
                refine wpList_g (!d2 && (fx && gx)) (.bool nu) (by cases d2 <;> cases fx <;> cases gx <;> rfl) (by intro hg; cases d2 <;> cases fx <;> cases gx <;> first | (exact absurd hg (by decide)) | go_simp) ?_
                simp only [Act.put, List.setIfInBounds_toArray, List.set_cons_zero, List.set_cons_succ]
                refine wpList_g (!d2) (.bool (fx && gx && nu)) (by cases d2 <;> rfl) (by intro hg; cases d2 <;> cases fx <;> cases gx <;> cases nu <;> first | (exact absurd hg (by decide)) | go_simp) ?_
                simp only [Act.put, List.setIfInBounds_toArray, List.set_cons_zero, List.set_cons_succ]
                refine wpList_g (true) (.bool (d2 || (fx && gx && nu))) rfl (fun _ => by cases d2 <;> cases fx <;> cases gx <;> cases nu <;> go_simp) ?_
                simp only [Act.put, List.setIfInBounds_toArray, List.set_cons_zero, List.set_cons_succ, if_true]
                refine wpList_g (true) (.bool (d2 || (fx && gx && nu))) rfl (fun _ => by go_simp) ?_
                simp only [Act.put, List.setIfInBounds_toArray, List.set_cons_zero, List.set_cons_succ, if_true]
                refine wpList_nil ?_
                repeat (first | go_back | go_step)
                go_meet
                exact ⟨by rw [HCL.out, Hca.out, Hd1.out, Hd2.out], rfl⟩
                --]r13
              case rest =>
                --[r14
                obtain ⟨rfl, rfl⟩ := hcut
                cases z
                all_goals
                  go_wp2_with fail
                  refine (flives _).mono ?_
                  rintro e w1 ⟨rfl, hw1⟩
                  go_wp2
                  go_ret
                  have h := HQ.out
                  subst h
                  exact ⟨rfl, g_trans (g_trans HA.out HBB.out) hw1⟩
                --]r14
              --]end
    --]rest
end Go.Proofs.Ytgfgfggoofjeeaa
namespace Go.Proofs.Ytgfgfggoofjeeaa.filtersBoth
open Go.ChangeShapes Go.WideShapes Go.ChangeAt Go.RowKit

theorem own : ownKnob Try.prog.godebug = none := by kernel_rfl
theorem cT : Try.prog.cellsOf 24 = 1 := by kernel_rfl
theorem cS : Try.prog.cellsOf 22 = 1 := by kernel_rfl
theorem cE : Try.prog.cellsOf 25 = 2 := by kernel_rfl
theorem cB : Try.prog.cellsOf 5 = 1 := by kernel_rfl
theorem cF : Try.prog.cellsOf 27 = 3 := by kernel_rfl
theorem laid : laidOutB Try.prog = true := by kernel_rfl

set_option maxRecDepth 100000 in
theorem lifted (os : Os) (started : os.Started) (H : Type) (enc : TypeId × Value → H) :
    ReturnsInHanded {} Try.checked os 3 .any (Rows.filtersBothSpec.pre6 enc Try.prog Try.f3 Rows.filtersBothRow.domain false) (Rows.filtersBothSpec.post enc Try.prog Try.f3 false true false false) := by
  refine returnsInHanded_of_change (C := Try.checked) own started (by kernel_rfl) Try.func3
    (ChangeSpec.witness6 (enc := enc) (C := Try.checked) false ⟨#[], #[.agg #[.slice none 0 0], .agg #[.int .u8 0, .int .u8 0, .int .u8 0], .agg #[.int .u8 0, .int .u8 0, .int .u8 0]], []⟩ 8 (by kernel_rfl) (by kernel_rfl) (by kernel_rfl) (by kernel_rfl)) ?_
  intro W base args ds gs before hval0 hW hcnd _
  have hval : ∀ (j : Nat) t v, Try.f3.params[j]? = some t → args[j]? = some v → Value.okWide Try.prog W .any base t v := hval0
  have hW' := hW
  obtain ⟨p, q, hA0, hV, rfl, hfz, hnd⟩ := hW
  have hA : DataW.TrodAll enc Try.prog W 0 (fun _ => true) true Try.f3.params.toList args.toList ds p := hA0
  rw [Try.params3] at hA hval
  obtain ⟨v0, vs0, d0, ds0, p0, q0, hargs, rfl, rfl, h0, r0⟩ := trodAll_cons hA
  obtain ⟨v1, vs1, d1, ds1, p1, q1, rfl, rfl, rfl, h1, r1⟩ := trodAll_cons r0
  obtain ⟨v2, vs2, d2, ds2, p2, q2, rfl, rfl, rfl, h2, r2⟩ := trodAll_cons r1
  obtain ⟨rfl, rfl, rfl⟩ := trodAll_nil r2
  obtain rfl : args = #[v0, v1, v2] := by cases args; simp_all
  obtain ⟨rfl, rfl⟩ := trodVars_none hV
  have k0 := h0
  have k1 := h1
  have k2 := h2
  obtain ⟨A, x, c, rfl, hx, hR⟩ := open_pairs Try.underlying24 rfl rfl cT cS Try.underlying22 Try.underlying25 cE cB Try.underlying5 (hval 0 24 v0 rfl rfl) h0
  obtain ⟨p, q, n, rfl, hp, hq, -⟩ := open_F Try.underlying27 rfl rfl rfl rfl cF Try.underlying25 cE cB Try.underlying5 (hval 1 27 v1 rfl rfl) h1
  obtain ⟨p', q', n', rfl, hp', hq', -⟩ := open_F Try.underlying27 rfl rfl rfl rfl cF Try.underlying25 cE cB Try.underlying5 (hval 2 27 v2 rfl rfl) h2
  have hlt0 : ∀ x ∈ p0, x.block < W.heap.size := fun x hx => by simpa using hW'.lt x (by simp [hx])
  have hlt1 : ∀ x ∈ p1, x.block < W.heap.size := fun x hx => by simpa using hW'.lt x (by simp [hx])
  have hlt2 : ∀ x ∈ p2, x.block < W.heap.size := fun x hx => by simpa using hW'.lt x (by simp [hx])
  clear hA0 hval0
  refine (fbth_walk A x c p q n p' q' n' W hR hx hp hq hp' hq').mono fun r W' ⟨he, hg⟩ => ?_
  subst he
  exact ⟨_, rfl, _, _, _, [], _, _, hW', trodAll_cons_mk (shut_bool Try.underlying4 _) trodAll_mk0,
    trodAll_cons_mk (Below.trod laid (by kernel_rfl) (of_decide_eq_true (by kernel_rfl)) k0 hg hlt0) (trodAll_cons_mk (Below.trod laid (by kernel_rfl) (of_decide_eq_true (by kernel_rfl)) k1 hg hlt1) (trodAll_cons_mk (Below.trod laid (by kernel_rfl) (of_decide_eq_true (by kernel_rfl)) k2 hg hlt2) trodAll_mk0)), rfl, hg.frame _, fun h => by cases h⟩

theorem over : Rows.filtersBothRow.holds Try.pinned (OpenSpec.ofChange Rows.filtersBothSpec) :=
  OpenClaim.holds_of_wide 3 Try.f3 rfl rfl rfl rfl rfl rfl rfl ⟨rfl, rfl, rfl, rfl, rfl⟩ rfl rfl rfl rfl rfl (by kernel_rfl) Try.func3 (by kernel_rfl)
    (of_decide_eq_true (by kernel_rfl)) (by unfold Func.isWrapper; first | (rw [if_pos (by decide +kernel)]; kernel_rfl) | (rw [if_neg (by decide +kernel)]; exact ⟨rfl, rfl⟩))
    (fun os started H enc _ => lifted os started H enc)

theorem proved : Rows.FiltersBothSaid := over
end Go.Proofs.Ytgfgfggoofjeeaa.filtersBoth
