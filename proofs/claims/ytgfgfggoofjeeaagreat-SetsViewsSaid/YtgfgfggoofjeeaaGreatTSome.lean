/-
  'append(out, l...)', and THE CONTRACT of the reference's Some.
-/
import Derived.Test.YtgfgfggoofjeeaaGreatTRef
namespace Go.Proofs.YtgfgfggoofjeeaaGreat
open Go.RowKit Go.Sort

theorem add_zero (b : Nat) (j : Nat) : ((⟨b, 0, none⟩ : Addr).add j) = ⟨b, j, none⟩ := by
  unfold Addr.add; split
  · rename_i h; subst h; rfl
  · simp
theorem flat_at {w : World} {b o : Nat} {m : List Tup} (h : Lies w b o m) : ∀ j u, (flat m)[j]? = some u → w.cell? ((⟨b, o, none⟩ : Addr).add j) = some u := fun j u hu => by
  have hj : j < m.length * 6 := by
    have := (List.getElem?_eq_some_iff.1 hu).1
    rwa [flat_len] at this
  have hi : j / 6 < m.length := by omega
  have hc : j % 6 < 6 := Nat.mod_lt _ (by omega)
  have e : j = j / 6 * 6 + j % 6 := by omega
  have h1 := flat_get m (j / 6) (j % 6) hi hc
  rw [← e, hu] at h1
  have h2 := h.2 (j / 6) hi (j % 6) u h1.symm
  unfold Addr.add
  split
  · rename_i hz; subst hz; simpa using h2
  · rw [show o + j / 6 * 6 + j % 6 = o + j by omega] at h2; exact h2

theorem run_apps (w : World) (base : Nat) (ty : TypeId) (v : Value) (l : List Tup) (hown : Own w base v l) (A : Option Addr) (m : List Tup) (c : Nat) (hm : Row w A m) (hn : l.length + m.length ≤ 100000) (hbase : base ≤ w.heap.size) :
    ∃ v' w', (Builtin.append_ #[31, 31] ty #[v, .slice A m.length c]).run Tryz.prog w = .ok v' w' ∧ Own w' base v' (l ++ m) ∧ w.grownBy w' v.ownBlock ∧ w.drawn ≤ w'.drawn := by
  obtain ⟨i0, hi, hz0, hz1, hz2⟩ := info_parts infoT
  by_cases h0 : m = []
  · subst h0
    have hrun : ∀ A : Option Addr, (Builtin.append_ #[31, 31] ty #[v, .slice A ([] : List Tup).length c]).run Tryz.prog w = .ok v w := fun A => by
      rcases hown.2 with ⟨rfl, hl⟩ | ⟨g, cap, cur, rfl, _, _, hnc, _⟩
      · cases A <;> simp [Builtin.append_, run_underlying Tryz.underlying31, sizeOf, typeInfo, hi, Builtin.lenOf, Builtin.firstCells, loadCells, loadCellsFrom]
      · cases A <;> simp [Builtin.append_, run_underlying Tryz.underlying31, sizeOf, typeInfo, hi, Builtin.lenOf, Builtin.firstCells, hnc, storeCells, loadCells, loadCellsFrom]
    exact ⟨v, w, hrun A, by rw [List.append_nil]; exact hown, ⟨rfl, rfl, rfl, Nat.le_refl _, fun _ _ _ => rfl⟩, Nat.le_refl _⟩
  · obtain ⟨b, o, rfl, hL⟩ := hm h0
    have hpos : 0 < m.length := List.length_pos_iff.2 h0
    obtain ⟨v', w', h1, h2, h3, _, h5⟩ := run_append_own_at (P := Tryz.prog) w base 31 ty 48 i0 _ 6 96 Tryz.underlying31 hi hz0 hz1 hz2 rfl (by decide) v l.length (flat l) hown ⟨b, o, none⟩ m.length c (flat m) (flat_len m) (flat_at hL) (flat_one m) (by unfold maxLen; omega) (by omega) hbase
    refine ⟨v', w', h1, ?_, h3, ?_⟩
    · unfold Own
      rw [List.length_append, flat_app]; exact h2
    · exact app_drawn (P := Tryz.prog) w base 31 ty 48 i0 _ Tryz.underlying31 hi hz0 v l.length (flat l) (by rw [hz1]; exact hown) ⟨b, o, none⟩ m.length c (flat m) (by rw [hz1]; exact flat_len m) (flat_at hL) (flat_one m) hpos (by unfold maxLen; omega) (by rw [hz2]; omega) h1

theorem wp_apps {ops : Array Oper} {rest : List Oper} {o : Oper} {a : Act} {w : World} {Q : Exit → Act → World → Prop} (s x : Operand) (hgd : o.guard = none)
    (ho : o.op = .call { callee := .builtin .append, args := #[s, x], argTypes := #[31, 31] })
    (base : Nat) (v : Value) (l : List Tup) (A : Option Addr) (m : List Tup) (c : Nat) (hs : a.eval s = v) (hx : a.eval x = .slice A m.length c) (hown : Own w base v l)
    (hm : Row w A m) (hn : l.length + m.length ≤ 100000) (hbase : base ≤ w.heap.size)
    (h : ∀ v' w', Own w' base v' (l ++ m) → w.grownBy w' v.ownBlock → w.drawn ≤ w'.drawn → wpList Tryz.prog ops Q rest (a.put o.dst v') w') : wpList Tryz.prog ops Q (o :: rest) a w := by
  obtain ⟨v', w', hr, h2, h3, h4⟩ := run_apps w base o.type v l hown A m c hm hn hbase
  refine wpList_plain hgd fun K hK => ?_
  unfold Oper.wp execOp
  simp only [ho, resolve, invoke, builtin, Sem.run_bind, Sem.run_pure, Result.andThen_ok, List.map_toArray, List.map_cons, List.map_nil, hs, hx, hr]
  exact hK _ _ (h v' w' h2 h3 h4)

/-- is a tuple wanted that is in the first list alone, in both, in the second one alone -/
def sel (a c b p q : Bool) : Bool := (p && !q && a) || (p && q && c) || (!p && q && b)
def flt (x y : List Tup) (a c b : Bool) (l : List Tup) : List Tup := l.filter fun t => sel a c b (decide (t ∈ x)) (decide (t ∈ y))
theorem flt_yes {x y : List Tup} {a c b p q : Bool} {l : List Tup} {k : Nat} (h : k < l.length) (hp : decide (l[k] ∈ x) = p) (hq : decide (l[k] ∈ y) = q) (hs : sel a c b p q = true) : flt x y a c b (l.take k) ++ [l[k]] = flt x y a c b (l.take (k + 1)) := by
  unfold flt; rw [List.take_succ_eq_append_getElem h, List.filter_append, List.filter_cons, hp, hq, hs]; rfl
theorem flt_no {x y : List Tup} {a c b p q : Bool} {l : List Tup} {k : Nat} (h : k < l.length) (hp : decide (l[k] ∈ x) = p) (hq : decide (l[k] ∈ y) = q) (hs : sel a c b p q = false) : flt x y a c b (l.take k) = flt x y a c b (l.take (k + 1)) := by
  unfold flt; rw [List.take_succ_eq_append_getElem h, List.filter_append, List.filter_cons, hp, hq, hs]; simp
theorem flt_len {x y : List Tup} {a c b : Bool} (l : List Tup) (k : Nat) (h : k ≤ l.length) : (flt x y a c b (l.take k)).length ≤ k := by
  have := List.length_filter_le (fun t => sel a c b (decide (t ∈ x)) (decide (t ∈ y))) (l.take k)
  unfold flt
  rw [List.length_take] at this; omega
theorem rin_q (A : Option Addr) (l : List Tup) (c : Nat) (x : Tup) (u : Value) (v : Int) (w : World) (n : Nat) (os : Array Obj) (hR : Row w A l) (hn : l.length ≤ 10000) (hv : inI x l = v) (hu : val x = u) :
    Calls Tryz.prog 19 #[.slice A l.length c, u] (grow (w.drewN n) os) fun e w'' => e = .returned (.int .i64 v) ∧ ∃ p : GrownBy, w'' = grow (w.drewN p.n) p.os :=
  hu ▸ Calls.grown_of ((rin A l c x _ (hR.gw (Grew.of_grow w n os)) hn).mono fun _ _ h => ⟨by rw [h.1, hv], h.2.out⟩)
theorem inI_of {x : Tup} {l : List Tup} {p : Bool} (h : decide (x ∈ l) = p) : inI x l = if p = true then 1 else 0 := by
  unfold inI; subst h; simp
/-- what Some returns -/
def someL (x y : List Tup) (a c b : Bool) : List Tup := srt cmpT (flt x y a c b (x ++ y))

set_option maxRecDepth 100000 in
set_option maxHeartbeats 8000000 in
theorem rsome (A B : Option Addr) (x y : List Tup) (ca cb : Nat) (a c b : Bool) (w : World) (hR : Row w A x) (hS : Row w B y) (hF : ∀ t ∈ x, Fits t) (hG : ∀ t ∈ y, Fits t) (hx : x.length ≤ 4000) (hy : y.length ≤ 4000) :
    Calls Tryz.prog 46 #[.slice A x.length ca, .slice B y.length cb, .bool a, .bool c, .bool b] w (Gives w (someL x y a c b)) := by
  have hmx := mixed
  have HF : Hid (∀ t ∈ x ++ y, Fits t) := fun t ht => by
    rcases List.mem_append.1 ht with h | h
    · exact hF t h
    · exact hG t h
  clear hF hG
  go_enter Tryz.func46, Tryz.ntmps46
  go_wp2_with (at_builtin; refine wp_apps _ _ rfl rfl w.heap.size _ [] A x ca rfl rfl (Own.nil w _) hR (by simp; omega) (Nat.le_refl _) ?_)
  intro v1 w1 hown1 hg1 hd1
  have hW1 : Grew w w1 := gw_grown gw_refl hg1 hd1 (fun _ h => by cases h)
  go_wp2_with (at_builtin; refine wp_apps _ _ rfl rfl w.heap.size _ x B y cb rfl rfl hown1 (hS.gw hW1) (by omega) hW1.size ?_)
  intro v2 w2 hown2 hg2 hd2
  have hW2 : Grew w w2 := gw_grown hW1 hg2 hd2 fun g hg => (hown1.lt g hg).1
  have hRx := hR.gw hW2
  have hRy := hS.gw hW2
  clear hg1 hd1 hW1 hown1 hg2 hd2 hR hS
  obtain ⟨D, cd, rfl, hRd, -, -⟩ := hown2.row
  have hlen : (x ++ y).length ≤ 8000 := by rw [List.length_append]; omega
  have HL := hid (show someL x y a c b = srt cmpT (flt x y a c b (x ++ y)) from rfl)
  generalize x ++ y = l at *
  generalize someL x y a c b = R at *
  clear hown2
  go_wp2
  go_loopw [11, 13] (fun v i wr => ∃ k : Nat, k ≤ l.length ∧ i = .int .i64 k ∧ Own wr w2.heap.size v (flt x y a c b (l.take k)) ∧ Grew w2 wr) (fun _ i _ => l.length - (intOf i).toNat)
  case atStart => exact ⟨0, Nat.zero_le _, rfl, Own.nil _ _, gw_refl⟩
  case round =>
    obtain ⟨k, hk, rfl, hown, hw⟩ := hrel
    by_cases hlt : k < l.length
    · obtain ⟨b1, o1, rfl, hL⟩ := (hRd.gw hw).at_ hlt
      obtain ⟨q0, q1, q2, q3, q4, q5⟩ := hL.six hlt
      have hR1 := hRx.gw hw
      have hR2 := hRy.gw hw
      obtain ⟨p, hp⟩ : ∃ p, decide (l[k] ∈ x) = p := ⟨_, rfl⟩
      obtain ⟨q, hq⟩ : ∃ q, decide (l[k] ∈ y) = q := ⟨_, rfl⟩
      have HP := hid hp; clear hp
      have HQ := hid hq; clear hq
      have hfl := flt_len (x := x) (y := y) (a := a) (c := c) (b := b) l k hk
      have HRD := hid hRd; clear hRd
      have HR1 := hid hR1; clear hR1
      have HR2 := hid hR2; clear hR2
      clear hRx hRy
      have HI1 := hid (inI_of HP.out)
      have HI2 := hid (inI_of HQ.out)
      have HX1 : Hid (x.length ≤ 10000) := by show _ ≤ _; omega
      have HX2 : Hid (y.length ≤ 10000) := by show _ ≤ _; omega
      have HU : Hid (val l[k] = .agg #[.string l[k].a, .string l[k].b, .string l[k].c, .string l[k].d, .string l[k].e, .string l[k].f]) := rfl
      go_wp2_with fail
      go_quiet_grown (first
        | (go_at_call 19; with_reducible exact rin_q A x ca l[k] _ (if p = true then 1 else 0) wr _ _ HR1.out HX1.out HI1.out HU.out)
        | (go_at_call 19; with_reducible exact rin_q B y cb l[k] _ (if q = true then 1 else 0) wr _ _ HR2.out HX2.out HI2.out HU.out))
      have hw3 : Grew w2 (grow (wr.drewN nq) osq) := gw_grow (gw_drewN hw _) _
      have hown3 : Own (grow (wr.drewN nq) osq) w2.heap.size _ (flt x y a c b (l.take k)) := hown.gw (Grew.of_grow _ _ _)
      have hL3 := hL.below (Grew.of_grow wr nq osq).toBelow
      have hzz := hw3.size
      clear q0 q1 q2 q3 q4 q5 hown hw hL
      simp only []
      generalize grow (wr.drewN nq) osq = w3 at *
      obtain ⟨q0, q1, q2, q3, q4, q5⟩ := (hL3.six hlt).at0
      clear hL3
      cases hs : sel a c b p q
      · have HFN := hid (flt_no hlt HP.out HQ.out hs)
        cases a <;> cases c <;> cases b <;> cases p <;> cases q <;> first
          | (exact absurd hs (by decide))
          | (clear hs
             go_wp2
             go_roundw
             case rel => exact ⟨k + 1, by omega, by go_num, by rw [← HFN.out]; exact hown3, hw3⟩
             case measure => simp [intOf]; omega)
      · have HFY := hid (flt_yes hlt HP.out HQ.out hs)
        cases a <;> cases c <;> cases b <;> cases p <;> cases q <;> first
          | (exact absurd hs (by decide))
          | (clear hs
             go_wp2_with (at_builtin; refine wp_app _ _ rfl rfl w2.heap.size _ _ w3.heap.size 1 l[k] rfl rfl (hown3.gw (gw_alloc gw_refl _)) (new_cells w3 l[k] _) (by omega) (by simp; omega) ?_)
             intro v5 w5 hown5 hg5 hd5
             have hw5 : Grew w2 w5 := gw_grown (gw_alloc hw3 _) hg5 hd5 fun g hg => (hown3.lt g hg).1
             go_wp2
             go_roundw
             case rel => exact ⟨k + 1, by omega, by go_num, by rw [← HFY.out]; exact hown5, hw5⟩
             case measure => simp [intOf]; omega)
    · have hall : flt x y a c b (l.take k) = flt x y a c b l := by rw [List.take_of_length_le (by omega)]
      rw [hall] at hown
      have hfl : (flt x y a c b l).length ≤ 8000 := Nat.le_trans (List.length_filter_le _ _) hlen
      have HFF : Hid (∀ t ∈ flt x y a c b l, Fits t) := fun t ht => HF.out t (List.mem_filter.1 ht).1
      generalize flt x y a c b l = F at *
      obtain ⟨E, ce, rfl, hRe, -, -⟩ := hown.row
      go_wp2_with fail
      refine (rsorted E F ce _ hRe HFF.out (by omega)).mono ?_
      rintro e w4 ⟨v4, rfl, hown4, hw4⟩
      go_wp2
      go_ret
      exact ⟨_, rfl, by rw [HL.out]; exact hown4.mono (gw_trans hW2 hw).size, gw_trans (gw_trans hW2 hw) hw4⟩

end Go.Proofs.YtgfgfggoofjeeaaGreat
