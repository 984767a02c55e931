/-
  A SLICE OF TUPLES THAT LIES IN MEMORY; loading one; '==' of two.
-/
import Derived.Test.YtgfgfggoofjeeaaTROrd
import Derived.Laws.StructEq
import Derived.Laws.Cells
import Derived.Shelf.SlSortCmp.QuietGrown
import Derived.Shelf.SlicesQ.Load
import Derived.Deep.LoopGhost
import Derived.IntWalk
namespace Go.Proofs.Ytgfgfggoofjeeaa
open Go.RowKit Go.Sort

/-- the slice of l lies at b, from o on -/
def Lies (w : World) (b o : Nat) (l : List Tup) : Prop :=
  b < w.heap.size ∧ ∀ i, (h : i < l.length) → ∀ c v, (enc l[i])[c]? = some v → w.cell? ⟨b, o + i * 6 + c, none⟩ = some v
/-- a slice reads as l -/
def Row (w : World) (A : Option Addr) (l : List Tup) : Prop := l ≠ [] → ∃ b o, A = some ⟨b, o, none⟩ ∧ Lies w b o l

theorem enc_len (x : Tup) : (enc x).length = 6 := rfl
theorem Lies.below {w w' : World} {b o : Nat} {l : List Tup} (h : Lies w b o l) (hb : Below w.heap.size w w') : Lies w' b o l :=
  ⟨Nat.lt_of_lt_of_le h.1 hb.size, fun i hi c v hv => (hb.cell (p := ⟨b, _, none⟩) h.1).trans (h.2 i hi c v hv)⟩
theorem Row.below {w w' : World} {A : Option Addr} {l : List Tup} (h : Row w A l) (hb : Below w.heap.size w w') : Row w' A l := fun hl => by
  obtain ⟨b, o, e, hL⟩ := h hl
  exact ⟨b, o, e, hL.below hb⟩
theorem Row.gw {w w' : World} {A : Option Addr} {l : List Tup} (h : Row w A l) (hb : Grew w w') : Row w' A l := h.below hb.toBelow
theorem Row.at_ {w : World} {A : Option Addr} {l : List Tup} (h : Row w A l) {k : Nat} (hk : k < l.length) : ∃ b o, A = some ⟨b, o, none⟩ ∧ Lies w b o l := h (fun e => by subst e; simp at hk)
theorem Row.nil (w : World) (A : Option Addr) : Row w A [] := fun h => absurd rfl h

/-- six strings at a place, in every world that grew -/
def Six (w : World) (b o : Nat) (x : Tup) : Prop :=
  (∀ n os, (grow (w.drewN n) os).cell? ⟨b, o, none⟩ = some (.string x.a)) ∧ (∀ n os, (grow (w.drewN n) os).cell? ⟨b, o + 1, none⟩ = some (.string x.b)) ∧ (∀ n os, (grow (w.drewN n) os).cell? ⟨b, o + 2, none⟩ = some (.string x.c)) ∧
  (∀ n os, (grow (w.drewN n) os).cell? ⟨b, o + 3, none⟩ = some (.string x.d)) ∧ (∀ n os, (grow (w.drewN n) os).cell? ⟨b, o + 4, none⟩ = some (.string x.e)) ∧ (∀ n os, (grow (w.drewN n) os).cell? ⟨b, o + 5, none⟩ = some (.string x.f))
theorem six_of {w : World} {b o : Nat} {x : Tup} (hb : b < w.heap.size) (h : ∀ c v, (enc x)[c]? = some v → w.cell? ⟨b, o + c, none⟩ = some v) : Six w b o x := by
  have H : ∀ c v, (enc x)[c]? = some v → ∀ n os, (grow (w.drewN n) os).cell? ⟨b, o + c, none⟩ = some v := fun c v hv n os =>
    ((Grew.of_grow w n os).toBelow.cell (p := ⟨b, o + c, none⟩) hb).trans (h c v hv)
  exact ⟨H 0 _ rfl, H 1 _ rfl, H 2 _ rfl, H 3 _ rfl, H 4 _ rfl, H 5 _ rfl⟩
theorem Lies.six {w : World} {b o : Nat} {l : List Tup} (h : Lies w b o l) {k : Nat} (hk : k < l.length) : Six w b (o + k * 6) l[k] := six_of h.1 fun c v hv => h.2 k hk c v hv
theorem Six.gw {w w' : World} {b o : Nat} {x : Tup} (h : Six w b o x) (hb : b < w.heap.size) (hg : Grew w w') : Six w' b o x := by
  obtain ⟨q, os, rfl⟩ := hg.out
  refine six_of (Nat.lt_of_lt_of_le hb hg.size) fun c v hv => ?_
  obtain ⟨h0, h1, h2, h3, h4, h5⟩ := h
  match c, hv with
  | 0, hv => cases hv; exact h0 q os
  | 1, hv => cases hv; exact h1 q os
  | 2, hv => cases hv; exact h2 q os
  | 3, hv => cases hv; exact h3 q os
  | 4, hv => cases hv; exact h4 q os
  | 5, hv => cases hv; exact h5 q os
theorem six_box (w : World) (x : Tup) (t : TypeId) : Six (w.alloc (.cells #[.string x.a, .string x.b, .string x.c, .string x.d, .string x.e, .string x.f] t)) w.heap.size 0 x :=
  six_of (by simp) fun c v h => by
    rw [World.cell?_alloc_new, Nat.zero_add]
    simpa [enc] using h

theorem fieldsTup : Try.prog.underlying 44 = some (.struct (Try.prog.fieldsOf 44)) := by kernel_rfl

theorem enc_inj {x y : Tup} : enc x = enc y ↔ x = y := by
  constructor
  · intro h
    cases x; cases y
    simp [enc] at h
    simp [h]
  · rintro rfl; rfl

theorem toList_beq (a b : ByteArray) : (a.toList == b.toList) = decide (a = b) := by
  by_cases h : a = b
  · subst h; simp
  · rw [toList_ne h, decide_eq_false h]

set_option maxHeartbeats 1000000 in
theorem eqTup (x y : Tup) (w : World) : (Op.equalIn 10000 44 (val x) (val y)).run Try.prog w = .ok (decide (x = y)) w := by
  have hS := fieldsTup
  have hp : Try.prog.stoodInHeld 44 = false := by kernel_rfl
  obtain ⟨a, b, c, d, e, f⟩ := x
  obtain ⟨a', b', c', d', e', f'⟩ := y
  simp only [val]
  rw [show (10000 : Nat) = 9999 + 1 from rfl, run_equalIn_struct w 9999 44 _ _ hS hp]
  simp only [Program.fieldsOf, Try.underlying44]
  have tl : ∀ u v : ByteArray, u.toList = v.toList ↔ u = v := fun u v => ⟨toList_inj, fun h => by rw [h]⟩
  go_simp
  repeat' split
  all_goals simp_all
theorem exec_eql {o : Oper} {a : Act} {l r : Operand} {ty : TypeId} {x y : Tup} (ho : o.op = .binOp .eql 44 l r ty) (hl : a.eval l = val x) (hr : a.eval r = val y) (w : World) :
    (execOp a.eval o).run Try.prog w = .ok (.value (.bool (decide (x = y)))) w := by
  have hg := fun op p q => run_eqGuard_agg (P := Try.prog) w op 44 p q #[.string x.a, .string x.b, .string x.c, .string x.d, .string x.e, .string x.f] #[.string y.a, .string y.b, .string y.c, .string y.d, .string y.e, .string y.f] (by kernel_rfl)
  have he := eqTup x y w
  unfold execOp
  simp only [ho, hl, hr]
  simp only [val] at he ⊢
  simp only [Sem.run_bind, hg, Result.andThen_ok, run_eql_struct, he, Sem.run_pure]
theorem exec_neq {o : Oper} {a : Act} {l r : Operand} {ty : TypeId} {x y : Tup} (ho : o.op = .binOp .neq 44 l r ty) (hl : a.eval l = val x) (hr : a.eval r = val y) (w : World) :
    (execOp a.eval o).run Try.prog w = .ok (.value (.bool (!decide (x = y)))) w := by
  have hg := fun op p q => run_eqGuard_agg (P := Try.prog) w op 44 p q #[.string x.a, .string x.b, .string x.c, .string x.d, .string x.e, .string x.f] #[.string y.a, .string y.b, .string y.c, .string y.d, .string y.e, .string y.f] (by kernel_rfl)
  have he := eqTup x y w
  unfold execOp
  simp only [ho, hl, hr]
  simp only [val] at he ⊢
  simp only [Sem.run_bind, hg, Result.andThen_ok, run_neq_struct, he, Sem.run_pure]

/-- one operation of a region, whose value is known in every world of the class -/
theorem quiet_put {P : Program} {ops : Array Oper} {C : World → Prop} {Q : Act → Prop} {o : Oper} {rest : List Oper} {a : Act} {v : Value} (hg : o.guard = none)
    (hv : ∀ w, (execOp a.eval o).run P w = .ok (.value v) w) (h : wpQuiet P ops C Q rest (a.put o.dst v)) : wpQuiet P ops C Q (o :: rest) a := by
  refine wpQuiet_step fun K hK => ?_
  rw [if_pos (by unfold Region.wanted; rw [hg])]
  exact ⟨v, fun w _ => by unfold Oper.quietAt; rw [hv]; exact ⟨rfl, rfl⟩, hK _ h⟩
theorem quiet_eql {ops : Array Oper} {C : World → Prop} {Q : Act → Prop} {o : Oper} {rest : List Oper} {a : Act} {l r : Operand} {ty : TypeId} (x y : Tup) (b : Bool) (hb : decide (x = y) = b) (hg : o.guard = none)
    (ho : o.op = .binOp .eql 44 l r ty) (hl : a.eval l = val x) (hr : a.eval r = val y) (h : wpQuiet Try.prog ops C Q rest (a.put o.dst (.bool b))) : wpQuiet Try.prog ops C Q (o :: rest) a :=
  quiet_put hg (fun w => by rw [exec_eql ho hl hr, hb]) h
theorem quiet_neq {ops : Array Oper} {C : World → Prop} {Q : Act → Prop} {o : Oper} {rest : List Oper} {a : Act} {l r : Operand} {ty : TypeId} (x y : Tup) (b : Bool) (hb : decide (x = y) = b) (hg : o.guard = none)
    (ho : o.op = .binOp .neq 44 l r ty) (hl : a.eval l = val x) (hr : a.eval r = val y) (h : wpQuiet Try.prog ops C Q rest (a.put o.dst (.bool (!b)))) : wpQuiet Try.prog ops C Q (o :: rest) a :=
  quiet_put hg (fun w => by rw [exec_neq ho hl hr, hb]) h
theorem mixed : Try.prog.follows .mixedOrders = true := by kernel_rfl
theorem ret_bool {a b : Bool} (h : a = b) : Ending.returned (.bool a) = .returned (.bool b) := by rw [h]
/-- 1 if a tuple is in a list -/
def inI (x : Tup) (l : List Tup) : Int := if x ∈ l then 1 else 0

theorem notin_step {x : Tup} {l : List Tup} {k : Nat} (hk : k < l.length) (h : x ∉ l.take k) (hv : decide (l[k] = x) = false) : x ∉ l.take (k + 1) := by
  rw [List.take_succ_eq_append_getElem hk, List.mem_append, List.mem_singleton]
  rintro (h1 | h1)
  · exact h h1
  · exact of_decide_eq_false hv h1.symm
theorem inI_yes {x : Tup} {l : List Tup} {k : Nat} (hk : k < l.length) (hv : decide (l[k] = x) = true) : inI x l = 1 := by
  unfold inI; rw [if_pos (by rw [← of_decide_eq_true hv]; exact List.getElem_mem hk)]
theorem inI_no {x : Tup} {l : List Tup} {k : Nat} (hk : ¬ k < l.length) (h : x ∉ l.take k) : inI x l = 0 := by
  unfold inI; rw [if_neg (by rwa [List.take_of_length_le (by omega)] at h)]


/-- 1 if two lists are the same -/
def sameI (l m : List Tup) : Int := if l = m then 1 else 0
theorem same_step {l m : List Tup} {k : Nat} (hl : k < l.length) (hm : k < m.length) (h : l.take k = m.take k) (hv : decide (l[k] = m[k]) = true) : l.take (k + 1) = m.take (k + 1) := by
  rw [List.take_succ_eq_append_getElem hl, List.take_succ_eq_append_getElem hm, h, of_decide_eq_true hv]
theorem sameI_len {l m : List Tup} (h : ¬ l.length = m.length) : sameI l m = 0 := by unfold sameI; rw [if_neg (fun e => h (by rw [e]))]
theorem sameI_no {l m : List Tup} {k : Nat} (hl : k < l.length) (hm : k < m.length) (hv : decide (l[k] = m[k]) = false) : sameI l m = 0 := by
  unfold sameI; rw [if_neg]
  intro e; subst e; simp at hv
theorem sameI_yes {l m : List Tup} {k : Nat} (hk : ¬ k < l.length) (he : l.length = m.length) (h : l.take k = m.take k) : sameI l m = 1 := by
  unfold sameI
  rw [List.take_of_length_le (by omega), List.take_of_length_le (by omega)] at h
  rw [if_pos h]

set_option maxHeartbeats 800000 in
theorem rsame_n (A B : Option Addr) (l m : List Tup) (n n' c d : Nat) (w : World) (hR : Row w A l) (hS : Row w B m) (hl : l.length = n) (hm : m.length = n') (hn : n ≤ 10000) :
    Calls Try.prog 41 #[.slice A n c, .slice B n' d] w fun e w' => e = .returned (.int .i64 (sameI l m)) ∧ Grew w w' := by
  have hmx := mixed
  by_cases he : n = n'
  · subst he
    have HE := hid (hl.trans hm.symm)
    have HL := hid hl; clear hl
    have HM := hid hm; clear hm
    go_enter Try.func41, Try.ntmps41
    go_wp2
    go_loopw [5] (fun i wr => ∃ k : Nat, k ≤ n ∧ i = .int .i64 k ∧ l.take k = m.take k ∧ Grew w wr) (fun i _ => n - (intOf i).toNat)
    case atStart => exact ⟨0, Nat.zero_le _, rfl, by simp, gw_refl⟩
    case round =>
      obtain ⟨k, hk, rfl, hx, hw⟩ := hrel
      have HX := hid hx; clear hx
      by_cases hlt : k < n
      · have hll : k < l.length := by have := HL.out; omega
        have hlm : k < m.length := by have := HM.out; omega
        obtain ⟨b, o, rfl, hL⟩ := (hR.gw hw).at_ hll
        obtain ⟨b2, o2, rfl, hM⟩ := (hS.gw hw).at_ hlm
        obtain ⟨p0, p1, p2, p3, p4, p5⟩ := hM.six hlm
        obtain ⟨q0, q1, q2, q3, q4, q5⟩ := hL.six hll
        clear hR hL hS hM
        obtain ⟨v, hv⟩ : ∃ v, decide (l[k] = m[k]) = v := ⟨_, rfl⟩
        have HV := hid hv; clear hv
        go_wp2_with fail
        refine wp_region_quiet_grown (by assumption) (by kernel_rfl) ?_
        repeat (quiet_step (fail))
        refine quiet_neq l[k] m[k] v HV.out rfl rfl rfl rfl ?_
        refine wpQuiet_nil ?_
        rintro _ ⟨⟨nq, osq⟩, rfl⟩
        cases v
        · go_wp2
          go_ret
          exact ⟨ret_int (sameI_no hll hlm HV.out).symm, gw_grow (gw_drewN hw _) _⟩
        · go_wp2
          go_roundw
          case rel => exact ⟨k + 1, by omega, by go_num, same_step hll hlm HX.out HV.out, gw_grow (gw_drewN hw _) _⟩
          case measure => simp [intOf]; omega
      · go_wp2
        go_ret
        exact ⟨ret_int (sameI_yes (by have := HL.out; omega) HE.out HX.out).symm, hw⟩
  · have he2 : ((n : Int) == (n' : Int)) = false := beq_eq_false_iff_ne.2 (by omega)
    have HE := hid (sameI_len (l := l) (m := m) (by omega))
    clear he
    go_enter Try.func41, Try.ntmps41
    go_wp2
    go_ret
    exact ⟨ret_int HE.out.symm, gw_refl⟩
theorem rsame (A B : Option Addr) (l m : List Tup) (c d : Nat) (w : World) (hR : Row w A l) (hS : Row w B m) (hn : l.length ≤ 10000) :
    Calls Try.prog 41 #[.slice A l.length c, .slice B m.length d] w fun e w' => e = .returned (.int .i64 (sameI l m)) ∧ Grew w w' :=
  rsame_n A B l m _ _ c d w hR hS rfl rfl hn

/-- Compare in a world that grew -/
theorem tcmp_q (x y : Tup) (v : Int) (hv : cmpT x y = v) (w : World) (n : Nat) (os : Array Obj) :
    Calls Try.prog 53 #[val x, val y] (grow (w.drewN n) os) fun e w'' => e = .returned (.int .i64 v) ∧ ∃ p : GrownBy, w'' = grow (w.drewN p.n) p.os :=
  Calls.grown_of ((tcmp x y _).mono fun _ _ h => ⟨by rw [h.1, hv], h.2.out⟩)
theorem rtcmp_q (x y : Tup) (v : Int) (hv : cmpT x y = v) (hx : Fits x) (hy : Fits y) (w : World) (n : Nat) (os : Array Obj) :
    Calls Try.prog 43 #[val x, val y] (grow (w.drewN n) os) fun e w'' => e = .returned (.int .i64 v) ∧ ∃ p : GrownBy, w'' = grow (w.drewN p.n) p.os :=
  Calls.grown_of ((rtcmp x y _ hx hy).mono fun _ _ h => ⟨by rw [h.1, hv], h.2.out⟩)

theorem is_short {l : List Tup} (h : ¬ 1 < l.length) : isB cmpT l = true := by
  match l, h with
  | [], _ => rfl
  | [x], _ => rfl
  | x :: y :: r, h => simp at h
theorem is_end {l : List Tup} {k : Nat} (hk : ¬ k + 1 < l.length) (h : isB cmpT (l.take (k + 1)) = true) : isB cmpT l = true := by
  rwa [List.take_of_length_le (by omega)] at h
theorem is_go {l : List Tup} {k : Nat} (hk : k + 1 < l.length) (h : isB cmpT (l.take (k + 1)) = true) {v : Int} (hv : cmpT l[k] l[k + 1] = v) (hs : v < 0) : isB cmpT (l.take (k + 1 + 1)) = true := by
  rw [isB_take cmpT l k hk h, hv, decide_eq_true hs]
theorem is_stop {l : List Tup} {k : Nat} (hk : k + 1 < l.length) {v : Int} (hv : cmpT l[k] l[k + 1] = v) (hs : ¬ v < 0) : isB cmpT l = false :=
  isB_false tot hk (Nat.lt_succ_self k) (by rw [hv]; exact hs)

set_option maxHeartbeats 800000 in
theorem tis (A : Option Addr) (l : List Tup) (c : Nat) (w : World) (hR : Row w A l) (hn : l.length ≤ maxLen) :
    Calls Try.prog 44 #[.slice A l.length c] w fun e w' => e = .returned (.bool (isB cmpT l)) ∧ Grew w w' := by
  have hmx := mixed
  unfold maxLen at hn
  by_cases h1 : 1 < l.length
  · go_enter Try.func44, Try.ntmps44
    go_wp2
    go_loopw [3] (fun i wr => ∃ k : Nat, k < l.length ∧ i = .int .i64 ((k : Int) + 1) ∧ isB cmpT (l.take (k + 1)) = true ∧ Grew w wr) (fun i _ => l.length - (intOf i).toNat)
    case atStart => exact ⟨0, by omega, rfl, by match l, h1 with | x :: r, _ => rfl, gw_refl⟩
    case round =>
      obtain ⟨k, hk, rfl, hx, hw⟩ := hrel
      have HX := hid hx; clear hx
      by_cases hlt : k + 1 < l.length
      · obtain ⟨b, o, rfl, hL⟩ := (hR.gw hw).at_ hlt
        obtain ⟨p0, p1, p2, p3, p4, p5⟩ := hL.six hk
        obtain ⟨q0, q1, q2, q3, q4, q5⟩ := hL.six hlt
        clear hR hL
        obtain ⟨v, hv⟩ : ∃ v, cmpT l[k] l[k + 1] = v := ⟨_, rfl⟩
        have HV := hid hv; clear hv
        have b0 : (0 : Int) ≤ (k : Int) := by omega
        have b1 : (k : Int) < (l.length : Int) := by omega
        have b2 : (k : Int) + 1 < (l.length : Int) := by omega
        have b3 : (0 : Int) ≤ (k : Int) + 1 := by omega
        have e1 : ((k : Int) + 1).toNat = k + 1 := by omega
        have e2 : IntKind.i64.wrap (k : Int) = (k : Int) := IntWalk.i64_in _ (by omega)
        by_cases hs : v < 0
        · have hs2 : decide (0 ≤ v) = false := decide_eq_false (by omega)
          go_wp2_with fail
          go_quiet_grown (first | (go_at_call 53; exact tcmp_q l[k] l[k + 1] v HV.out _ _ _))
          go_wp2
          go_roundw
          case rel => exact ⟨k + 1, by omega, by go_num, is_go hlt HX.out HV.out hs, gw_grow (gw_drewN hw _) _⟩
          case measure => simp [intOf]; omega
        · have hs2 : decide (0 ≤ v) = true := decide_eq_true (by omega)
          go_wp2_with fail
          go_quiet_grown (first | (go_at_call 53; exact tcmp_q l[k] l[k + 1] v HV.out _ _ _))
          go_wp2
          go_ret
          exact ⟨ret_bool (is_stop hlt HV.out (by omega)).symm, gw_grow (gw_drewN hw _) _⟩
      · go_wp2
        go_ret
        exact ⟨ret_bool (is_end hlt HX.out).symm, hw⟩
  · have HE := hid (is_short h1)
    go_enter Try.func44, Try.ntmps44
    go_wp2
    go_loopw [3] (fun i wr => i = .int .i64 1 ∧ wr = w) (fun _ _ => 0)
    case atStart => exact ⟨rfl, rfl⟩
    case round =>
      obtain ⟨rfl, rfl⟩ := hrel
      go_wp2
      go_ret
      exact ⟨ret_bool HE.out.symm, gw_refl⟩
end Go.Proofs.Ytgfgfggoofjeeaa
