/-
  THE CONTRACTS of sets' Same and Of.
-/
import Derived.Test.YtgfgfggoofjeeaaGreatDTLst
import Derived.Test.YtgfgfggoofjeeaaGreatTEq
namespace Go.Proofs.YtgfgfggoofjeeaaGreat.DT
open Go.RowKit Go.Deep

theorem lf_in (x : Value) (W : World) : (callFunc 37 #[x]).run Tryz.prog W = .ok (.enter 37 #[x]) W := by kernel_rfl
theorem cel_row {w : World} {g cap : Nat} {l : List Tup} (h : Cel w g cap l) : Row w (some ⟨g, 0, none⟩) l := fun _ => ⟨g, 0, rfl, h.lies⟩
/-- what List gives -/
def GivesR (w : World) (l : List Tup) (e : Ending) (w' : World) : Prop := ∃ A, e = .returned (.slice A l.length l.length) ∧ Row w' A l ∧ Below w.heap.size w w'
theorem list_r {w : World} {ov : Value} {T : Tr} {l : List Tup} (h : MapL w ov T l) (hn : l.length ≤ 900000) :
    Calls Tryz.prog 37 #[.agg #[ov, .pointer T.ad]] w (GivesR w l) :=
  (list_l h hn).mono fun _ _ ⟨_, he, _, hc, hb⟩ => ⟨_, he, cel_row hc, hb⟩
theorem keep4 {a b : World} {p0 p1 p2 p3 o0 o1 o2 o3 : Nat} {x0 x1 x2 x3 : Value} (h : Below a.heap.size a b)
    (s : a.cell? ⟨p0, o0, none⟩ = some x0 ∧ a.cell? ⟨p1, o1, none⟩ = some x1 ∧ a.cell? ⟨p2, o2, none⟩ = some x2 ∧ a.cell? ⟨p3, o3, none⟩ = some x3) :
    b.cell? ⟨p0, o0, none⟩ = some x0 ∧ b.cell? ⟨p1, o1, none⟩ = some x1 ∧ b.cell? ⟨p2, o2, none⟩ = some x2 ∧ b.cell? ⟨p3, o3, none⟩ = some x3 :=
  ⟨keep1 h s.1, keep1 h s.2.1, keep1 h s.2.2.1, keep1 h s.2.2.2⟩


theorem set2_heap {W : World} {g : Nat} {t : TypeId} {x y : Value} (h : W.heap[g]? = some (.cells #[x, y] t (0, 0))) (u v : Value) : ((W.setCell ⟨g, 0, none⟩ u).setCell ⟨g, 1, none⟩ v).heap[g]? = some (.cells #[u, v] t (0, 0)) := by
  have h2 : (W.setCell ⟨g, 0, none⟩ u).heap[g]? = some (.cells (#[x, y].setIfInBounds 0 u) t (0, 0)) := heap_setCell_same W g 0 _ t u h
  exact heap_setCell_same _ g 1 _ t v h2
theorem set2_other {W : World} {g b : Nat} {o : Obj} (hn : ¬ b = g) (h : W.heap[b]? = some o) (u v : Value) : ((W.setCell ⟨g, 0, none⟩ u).setCell ⟨g, 1, none⟩ v).heap[b]? = some o := by
  rw [heap_setCell_other _ ⟨g, 1, none⟩ b _ hn, heap_setCell_other _ ⟨g, 0, none⟩ b _ hn]; exact h
/-- what Of makes of a list, and the number of its error -/
def ofF : List Tup → List Tup → List Tup × Int
  | acc, [] => (acc, 0)
  | acc, k :: t => if (wth acc k false).2 = 0 then ofF (wth acc k false).1 t else ([], (wth acc k false).2)
theorem wth_len {l : List Tup} {k : Tup} {d : Bool} (h : l.length ≤ 4096) : (wth l k d).1.length ≤ 4096 := by
  unfold wth
  repeat' split
  all_goals first | exact h | exact Nat.zero_le _ | exact Nat.le_trans (Tr.del_len l) h | (rw [length_ins]; omega)
theorem ofF_go {acc : List Tup} {k : Tup} {t : List Tup} (h : (wth acc k false).2 = 0) : ofF acc (k :: t) = ofF (wth acc k false).1 t := by rw [ofF, if_pos h]
theorem ofF_stop {acc : List Tup} {k : Tup} {t : List Tup} (h : ¬ (wth acc k false).2 = 0) : ofF acc (k :: t) = ([], (wth acc k false).2) := by rw [ofF, if_neg h]
set_option maxRecDepth 20000 in
set_option maxHeartbeats 4000000 in
theorem of_l {w : World} (A : Option Addr) (l : List Tup) (c : Nat) (hR : Row w A l) (hF : ∀ t ∈ l, Fits t) (hn : l.length ≤ 10000) :
    Calls Tryz.prog 6 #[.slice A l.length c] w (GivesS w (ofF [] l)) := by
  have hb0 : Below w.heap.size w ((w.alloc (.cells #[.nilFunc, .pointer none] 38 (0, 0))).alloc (.cells #[.nilFunc, .pointer none] 38 (0, 0))) := g_alloc (g_alloc g_refl _) _
  have HB0 := hid hb0
  have HF := hid hF
  have HR := hid hR
  clear hb0 hF hR
  go_enter Tryz.func6, Tryz.ntmps6
  go_wp2
  go_loopw [11] (fun i wr => ∃ (k : Nat) (ov : Value) (T : Tr) (acc : List Tup), k ≤ l.length ∧ i = .int .i64 k ∧ wr.heap[w.heap.size]? = some (.cells #[.nilFunc, .pointer none] 38 (0, 0)) ∧ wr.heap[w.heap.size + 1]? = some (.cells #[ov, .pointer T.ad] 38 (0, 0)) ∧ MapL wr ov T acc ∧ acc.length ≤ 4096 ∧ ofF acc (l.drop k) = ofF [] l ∧ Below w.heap.size w wr) (fun i _ => l.length - (intOf i).toNat)
  case atStart => exact ⟨0, .nilFunc, .nil, [], Nat.zero_le _, rfl, new_old (new_at w _), (by have h := new_at (w.alloc (.cells #[.nilFunc, .pointer none] 38 (0, 0))) (.cells #[.nilFunc, .pointer none] 38 (0, 0)); rwa [show (w.alloc (.cells #[.nilFunc, .pointer none] 38 (0, 0))).heap.size = w.heap.size + 1 by simp] at h), MapL.zero _, Nat.zero_le _, rfl, HB0.out⟩
  case round =>
    obtain ⟨k, ov, T, acc, hk, rfl, hr, hs, hL, ha, hof, hw⟩ := hrel
    have HR1 := hid hr
    have HS1 := hid hs
    have HA := hid ha
    have HO := hid hof
    have HW := hid hw
    by_cases hlt : k < l.length
    · obtain ⟨b, o, rfl, hLi⟩ := (HR.out.below hw).at_ hlt
      have e0 : wr.cell? ⟨b, o + k * 6, none⟩ = some (.string l[k].a) := hLi.2 k hlt 0 _ rfl
      have e1 : wr.cell? ⟨b, o + k * 6 + 1, none⟩ = some (.string l[k].b) := hLi.2 k hlt 1 _ rfl
      have e2 : wr.cell? ⟨b, o + k * 6 + 2, none⟩ = some (.string l[k].c) := hLi.2 k hlt 2 _ rfl
      have e3 : wr.cell? ⟨b, o + k * 6 + 3, none⟩ = some (.string l[k].d) := hLi.2 k hlt 3 _ rfl
      have e4 : wr.cell? ⟨b, o + k * 6 + 4, none⟩ = some (.string l[k].e) := hLi.2 k hlt 4 _ rfl
      have e5 : wr.cell? ⟨b, o + k * 6 + 5, none⟩ = some (.string l[k].f) := hLi.2 k hlt 5 _ rfl
      have m0 : wr.cell? ⟨w.heap.size + 1, 0, none⟩ = some ov := (box_cell hs 0).trans rfl
      have m1 : wr.cell? ⟨w.heap.size + 1, 1, none⟩ = some (.pointer T.ad) := (box_cell hs 1).trans rfl
      have hf := HF.out _ (List.getElem_mem hlt)
      have hmm := keep2 (g_alloc g_refl (.cells #[.string l[k].a, .string l[k].b, .string l[k].c, .string l[k].d, .string l[k].e, .string l[k].f] 48 (0, 0))) (And.intro m0 m1)
      obtain ⟨m2, m3⟩ := hmm
      have hd : l.drop k = l[k] :: l.drop (k + 1) := List.drop_eq_getElem_cons hlt
      rw [hd] at hof
      have HOF := hid hof
      generalize hx : l[k] = x at *
      have hWT := with_l x false hf (hL.below (g_alloc g_refl (.cells #[.string x.a, .string x.b, .string x.c, .string x.d, .string x.e, .string x.f] 48 (0, 0)))) (Nat.le_trans ha (by decide))
      have HWT := hid hWT
      clear hr hs hL ha hof hw hLi hf hd hWT
      go_wp2_with fail
      refine HWT.out.mono ?_
      rintro _ w2 ⟨ov2, T2, rfl, hL2, hb2⟩
      have hW2 := g_trans (g_alloc HW.out (.cells #[.string x.a, .string x.b, .string x.c, .string x.d, .string x.e, .string x.f] 48 (0, 0))) hb2
      have hr2 := (hb2.block _ (Array.getElem?_eq_some_iff.1 (new_old HR1.out)).1).trans (new_old HR1.out)
      have hs2 := (hb2.block _ (Array.getElem?_eq_some_iff.1 (new_old HS1.out)).1).trans (new_old HS1.out)
      obtain ⟨e, he⟩ : ∃ e, (wth acc x false).2 = e := ⟨_, rfl⟩
      have HE := hid he
      rw [he]
      have HL2 := hid hL2
      have HW2 := hid hW2
      have HR2 := hid hr2
      have HS2 := hid hs2
      obtain ⟨-, r1, r2, f0, f1⟩ := res2 hr2 g_refl
      obtain ⟨-, n1, n2, g0, g1⟩ := res2 hs2 g_refl
      have hlr := (Array.getElem?_eq_some_iff.1 hr2).1
      have hls := (Array.getElem?_eq_some_iff.1 hs2).1
      have ne1 : ¬ w.heap.size = w2.heap.size := by omega
      have ne2 : ¬ w.heap.size + 1 = w2.heap.size := by omega
      have hov := hL2.ov
      have ne3 : ¬ w2.heap.size = w.heap.size := by omega
      have ne4 : ¬ w2.heap.size = w.heap.size + 1 := by omega
      clear he hL2 hW2 hr2 hs2 hb2 e0 e1 e2 e3 e4 e5 m0 m1 m2 m3 HWT
      by_cases hz : e = 0
      · subst hz
        rcases hov with rfl | ⟨rfl, -⟩
        · simp only [fv] at HL2 ⊢
          go_wp2
          go_roundw
          case rel => exact ⟨k + 1, fv, T2, (wth acc x false).1, by omega, by go_num, new_old (set2_other (by omega) HR2.out _ _), new_old (set2_heap HS2.out _ _), (HL2.out.bod (set_two HS2.out _ _) (by decide)).below (g_alloc g_refl _), wth_len HA.out, by rw [← ofF_go HE.out]; exact HOF.out, g_alloc (g_set (g_set HW2.out (Nat.le_succ _) _) (Nat.le_succ _) _) _⟩
          case measure => simp [intOf]; omega
        · go_wp2
          go_roundw
          case rel => exact ⟨k + 1, .nilFunc, T2, (wth acc x false).1, by omega, by go_num, new_old (set2_other (by omega) HR2.out _ _), new_old (set2_heap HS2.out _ _), (HL2.out.bod (set_two HS2.out _ _) (by decide)).below (g_alloc g_refl _), wth_len HA.out, by rw [← ofF_go HE.out]; exact HOF.out, g_alloc (g_set (g_set HW2.out (Nat.le_succ _) _) (Nat.le_succ _) _) _⟩
          case measure => simp [intOf]; omega
      · have HRES := hid (show ofF [] l = ([], e) by rw [← HOF.out, ofF_stop (by rw [HE.out]; exact hz), HE.out])
        rcases hov with rfl | ⟨rfl, -⟩
        · simp only [fv] at HL2 ⊢
          go_wp2
          refine bodyPost_ret (v := .tuple #[.agg #[.nilFunc, .pointer none], .int .i64 e]) ?_ rfl ?_
          · simp [results, Tryz.results6, go_sem, *]
          · rw [HRES.out]
            exact ⟨.nilFunc, .nil, rfl, MapL.zero _, g_alloc (g_set (g_set HW2.out (Nat.le_refl _) _) (Nat.le_refl _) _) _⟩
        · go_wp2
          refine bodyPost_ret (v := .tuple #[.agg #[.nilFunc, .pointer none], .int .i64 e]) ?_ rfl ?_
          · simp [results, Tryz.results6, go_sem, *]
          · rw [HRES.out]
            exact ⟨.nilFunc, .nil, rfl, MapL.zero _, g_alloc (g_set (g_set HW2.out (Nat.le_refl _) _) (Nat.le_refl _) _) _⟩
    · have e : k = l.length := by omega
      subst e
      rw [List.drop_length] at hof
      replace HO := hid hof
      have HL := hid hL
      have m0 : wr.cell? ⟨w.heap.size + 1, 0, none⟩ = some ov := (box_cell hs 0).trans rfl
      have m1 : wr.cell? ⟨w.heap.size + 1, 1, none⟩ = some (.pointer T.ad) := (box_cell hs 1).trans rfl
      obtain ⟨-, r1, r2, f0, f1⟩ := res2 hr g_refl
      have hov := hL.ov
      clear hr hs hof hw hL ha
      rcases hov with rfl | ⟨rfl, -⟩
      · simp only [fv] at *
        go_wp2
        refine bodyPost_ret (v := .tuple #[.agg #[.func (.func 50) #[] #[], .pointer T.ad], .int .i64 0]) ?_ rfl ?_
        · simp [results, Tryz.results6, go_sem, *]
        · rw [← HO.out]
          exact ⟨fv, T, rfl, HL.out.bod (set_two HR1.out _ _) (by decide), g_set (g_set HW.out (Nat.le_refl _) _) (Nat.le_refl _) _⟩
      · go_wp2
        refine bodyPost_ret (v := .tuple #[.agg #[.nilFunc, .pointer T.ad], .int .i64 0]) ?_ rfl ?_
        · simp [results, Tryz.results6, go_sem, *]
        · rw [← HO.out]
          exact ⟨.nilFunc, T, rfl, HL.out.bod (set_two HR1.out _ _) (by decide), g_set (g_set HW.out (Nat.le_refl _) _) (Nat.le_refl _) _⟩

end Go.Proofs.YtgfgfggoofjeeaaGreat.DT
