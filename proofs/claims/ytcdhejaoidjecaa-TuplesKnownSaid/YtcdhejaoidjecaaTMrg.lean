/-
  THE CONTRACTS of tuples.next, of the closures that choose, and of choose$1.
-/
import Derived.Test.YtcdhejaoidjecaaTSome
namespace Go.Proofs.Ytcdhejaoidjecaa
open Go.RowKit Go.Sort

def PairRet (p q : Bool) (w : World) (e : Ending) (w' : World) : Prop := e = .returned (.tuple #[.bool p, .bool q]) ∧ Grew w w'
set_option maxHeartbeats 400000 in
theorem next_l (A B : Option Addr) (n c d : Nat) (w : World) (hn : 0 < n) :
    Calls Try.prog 90 #[.slice A n c, .slice B 0 d] w (PairRet true false w) := by
  have h1 : ((n : Int) == 0) = false := beq_eq_false_iff_ne.2 (by omega)
  go_enter Try.func90, Try.ntmps90
  go_wp2
  go_ret2
  exact ⟨rfl, gw_refl⟩
set_option maxHeartbeats 400000 in
theorem next_r (A B : Option Addr) (n c d : Nat) (w : World) (hn : 0 < n) :
    Calls Try.prog 90 #[.slice A 0 c, .slice B n d] w (PairRet false true w) := by
  have h1 : ((n : Int) == 0) = false := beq_eq_false_iff_ne.2 (by omega)
  go_enter Try.func90, Try.ntmps90
  go_wp2
  go_ret2
  exact ⟨rfl, gw_refl⟩
theorem Lies.six0 {w : World} {b o : Nat} {l : List Tup} (h : Lies w b o l) (hk : 0 < l.length) : Six w b o l[0] := by
  have := h.six hk
  rwa [Nat.zero_mul, Nat.add_zero] at this
set_option maxHeartbeats 800000 in
theorem next_b (A B : Option Addr) (l m : List Tup) (c d : Nat) (w : World) (hR : Row w A l) (hS : Row w B m) (hl : 0 < l.length) (hm : 0 < m.length) (v : Int) (hv : cmpT l[0] m[0] = v) (p q : Bool) (hp : decide (v ≤ 0) = p) (hq : decide (0 ≤ v) = q) :
    Calls Try.prog 90 #[.slice A l.length c, .slice B m.length d] w (PairRet p q w) := by
  have hmx := mixed
  have h1 : ((l.length : Int) == 0) = false := beq_eq_false_iff_ne.2 (by omega)
  have h2 : ((m.length : Int) == 0) = false := beq_eq_false_iff_ne.2 (by omega)
  obtain ⟨b, o, rfl, hL⟩ := hR.at_ hl
  obtain ⟨b2, o2, rfl, hM⟩ := hS.at_ hm
  obtain ⟨p0, p1, p2, p3, p4, p5⟩ := hM.six0 hm
  obtain ⟨q0, q1, q2, q3, q4, q5⟩ := hL.six0 hl
  have HV := hid hv; clear hv
  have HP := hid hp; clear hp
  have HQ := hid hq; clear hq
  clear hR hS hL hM
  go_enter Try.func90, Try.ntmps90
  go_wp2_with fail
  go_quiet_grown (first | (go_at_call 7; exact tcmp_q l[0] m[0] v HV.out _ _ _))
  go_wp2
  go_ret2
  exact ⟨by rw [← HP.out, ← HQ.out]; rfl, Grew.of_grow _ _ _⟩

/-- what is asked of the function that chooses -/
def Picks (F : Nat) (f : Bool → Bool → Bool) : Prop :=
  (∀ args w, (callFunc F args).run Try.prog w = .ok (.enter F args) w) ∧ ∀ p q w, Calls Try.prog F #[.bool p, .bool q] w fun e w' => e = .returned (.bool (f p q)) ∧ w = w'
theorem picks_union : Picks 33 (fun p q => p || q) := by
  refine ⟨enters_of Try.func33 (by kernel_rfl) rfl, fun p q w => ?_⟩
  cases p <;> cases q
  all_goals
    go_enter Try.func33, Try.ntmps33
    go_wp2
    go_ret
    exact ⟨rfl, rfl⟩
theorem picks_common : Picks 34 (fun p q => p && q) := by
  refine ⟨enters_of Try.func34 (by kernel_rfl) rfl, fun p q w => ?_⟩
  cases p <;> cases q
  all_goals
    go_enter Try.func34, Try.ntmps34
    go_wp2
    go_ret
    exact ⟨rfl, rfl⟩
theorem picks_without : Picks 35 (fun p q => p && !q) := by
  refine ⟨enters_of Try.func35 (by kernel_rfl) rfl, fun p q w => ?_⟩
  cases p <;> cases q
  all_goals
    go_enter Try.func35, Try.ntmps35
    go_wp2
    go_ret
    exact ⟨rfl, rfl⟩

/-- what merge finds in memory: the function that chooses, and what was chosen -/
structure St (w : World) (pw po F : Nat) (acc : List Tup) (wr : World) : Prop where
  fn : wr.cell? ⟨pw, 0, none⟩ = some (.func (.func F) #[] #[])
  free : wr.frozen? ⟨po, 0, none⟩ = false
  out : ∃ v, wr.cell? ⟨po, 0, none⟩ = some v ∧ Own wr (po + 1) v acc
  gw : Grew w wr
  room : po + 1 ≤ wr.heap.size
  ord : pw < po
  low : w.heap.size ≤ pw

theorem St.kept {w wr w' : World} {pw po F : Nat} {acc : List Tup} (h : St w pw po F acc wr) (hg : Grew wr w') : St w pw po F acc w' := by
  have hr := h.room
  have ho := h.ord
  have hlo := h.low
  obtain ⟨v, hv, hown⟩ := h.out
  exact ⟨(hg.toBelow.cell (p := ⟨pw, 0, none⟩) (show pw < wr.heap.size by omega)).trans h.fn, (hg.toBelow.frozen (p := ⟨po, 0, none⟩) (show po < wr.heap.size by omega)).trans h.free,
    ⟨v, (hg.toBelow.cell (p := ⟨po, 0, none⟩) (show po < wr.heap.size by omega)).trans hv, hown.gw hg⟩, gw_trans h.gw hg, Nat.le_trans hr hg.size, ho, hlo⟩

def VisitRet (w : World) (pw po F : Nat) (acc : List Tup) (e : Ending) (w' : World) : Prop := e = .returned (.tuple #[]) ∧ St w pw po F acc w'

set_option maxHeartbeats 1000000 in
theorem visit_no (w : World) (pw po F : Nat) (f : Bool → Bool → Bool) (hF : Picks F f) (acc : List Tup) (x : Tup) (p q : Bool) (wr : World) (h : St w pw po F acc wr) (hf : f p q = false) :
    Calls Try.prog 65 #[val x, .bool p, .bool q, .pointer (some ⟨pw, 0, none⟩), .pointer (some ⟨po, 0, none⟩)] wr (VisitRet w pw po F acc) := by
  have eg := hF.1
  have hc := hF.2 p q
  rw [hf] at hc
  have hK := h.kept (gw_alloc gw_refl (.cells #[.string x.a, .string x.b, .string x.c, .string x.d, .string x.e, .string x.f] 30))
  have h1 := hK.fn
  have HC := hid hc; clear hc hf hF
  have HK := hid hK; clear hK h
  show Calls _ _ #[.agg #[.string x.a, .string x.b, .string x.c, .string x.d, .string x.e, .string x.f], _, _, _, _] _ _
  go_enter Try.func65, Try.ntmps65
  go_wp2_with (go_at_fn F; refine (HC.out _).mono ?_; rintro e w' ⟨rfl, rfl⟩)
  go_end0
  exact ⟨rfl, HK.out⟩

theorem St.next {w wr w5 : World} {pw po F : Nat} {acc acc' : List Tup} {v v' : Value} (h : St w pw po F acc wr) (hv : wr.cell? ⟨po, 0, none⟩ = some v) (hown : Own wr (po + 1) v acc) (hg : wr.grownBy w5 v.ownBlock) (hd : wr.drawn ≤ w5.drawn) (hn : Own w5 (po + 1) v' acc') :
    w5.cell? ⟨po, 0, none⟩ = some v ∧ w5.frozen? ⟨po, 0, none⟩ = false ∧ St w pw po F acc' (w5.setCell ⟨po, 0, none⟩ v') := by
  have hr := h.room
  have ho := h.ord
  have hlo := h.low
  have ne : ∀ k, k < po + 1 → some k ≠ v.ownBlock := fun k hk e => by have := (hown.lt k e.symm).1; omega
  have b1 := hg.block po (by omega) (ne _ (by omega))
  have b0 := hg.block pw (by omega) (ne _ (by omega))
  have c1 : w5.cell? ⟨po, 0, none⟩ = some v := (World.cell?_of_block (w := wr) (a := ⟨po, 0, none⟩) b1).trans hv
  have f1 : w5.frozen? ⟨po, 0, none⟩ = false := (World.frozen?_of_block (w := wr) (a := ⟨po, 0, none⟩) b1).trans h.free
  have c0 : w5.cell? ⟨pw, 0, none⟩ = some (.func (.func F) #[] #[]) := (World.cell?_of_block (w := wr) (a := ⟨pw, 0, none⟩) b0).trans h.fn
  have hG : Grew w w5 := gw_grown h.gw hg hd fun k hk => by have := (hown.lt k hk).1; omega
  refine ⟨c1, f1, ?_, ?_, ⟨v', ?_, ownsRow_setCell_below hn (show po < po + 1 by omega) v'⟩, gw_set hG (show w.heap.size ≤ po by omega) v', ?_, ho, hlo⟩
  · rw [← c0]; exact World.cell?_setCell_other w5 _ _ v' (fun e => by injection e with e; omega)
  · simpa using f1
  · go_simp
  · have := hg.size
    simp [World.setCell]; omega

set_option maxHeartbeats 1000000 in
theorem visit_yes (w : World) (pw po F : Nat) (f : Bool → Bool → Bool) (hF : Picks F f) (acc : List Tup) (x : Tup) (p q : Bool) (wr : World) (h : St w pw po F acc wr) (hf : f p q = true) (hn : acc.length + 1 ≤ 100000) :
    Calls Try.prog 65 #[val x, .bool p, .bool q, .pointer (some ⟨pw, 0, none⟩), .pointer (some ⟨po, 0, none⟩)] wr (VisitRet w pw po F (acc ++ [x])) := by
  have eg := hF.1
  have hc := hF.2 p q
  rw [hf] at hc
  have hK := h.kept (gw_alloc gw_refl (.cells #[.string x.a, .string x.b, .string x.c, .string x.d, .string x.e, .string x.f] 30))
  have h1 := hK.fn
  have h2 := hK.free
  obtain ⟨v, hv, hown⟩ := hK.out
  have hr := hK.room
  have ho := hK.ord
  have HC := hid hc; clear hc hf hF
  have HK2 := hid (hK.kept (gw_alloc gw_refl (.cells #[.string x.a, .string x.b, .string x.c, .string x.d, .string x.e, .string x.f] 30)))
  have HV2 := hid (((gw_alloc gw_refl (.cells #[.string x.a, .string x.b, .string x.c, .string x.d, .string x.e, .string x.f] 30) : Grew (wr.alloc (.cells #[.string x.a, .string x.b, .string x.c, .string x.d, .string x.e, .string x.f] 30)) _).toBelow.cell (p := ⟨po, 0, none⟩) (show po < _ by omega)).trans hv)
  clear hK h
  show Calls _ _ #[.agg #[.string x.a, .string x.b, .string x.c, .string x.d, .string x.e, .string x.f], _, _, _, _] _ _
  go_enter Try.func65, Try.ntmps65
  go_wp2_with (first
    | (go_at_fn F; refine (HC.out _).mono ?_; rintro e w' ⟨rfl, rfl⟩)
    | (at_builtin; refine wp_app _ _ rfl rfl (po + 1) _ acc (wr.heap.size + 1) 1 x rfl rfl (hown.gw (gw_alloc gw_refl _)) ?c1 hn ?c2 ?_))
  case c1 => have := new_cells (wr.alloc (.cells #[.string x.a, .string x.b, .string x.c, .string x.d, .string x.e, .string x.f] 30)) x 30; simpa using this
  case c2 => simp at hr ⊢; omega
  intro v5 w5 hown5 hg5 hd5
  obtain ⟨A5, d5, rfl, -, -, -⟩ := hown5.row
  obtain ⟨c5, f5, hS⟩ := HK2.out.next HV2.out (hown.gw (gw_alloc gw_refl _)) hg5 hd5 hown5
  clear hown hv hown5 hg5 hd5 HK2 HV2
  go_wp2
  go_end0
  exact ⟨rfl, by simpa using hS⟩

end Go.Proofs.Ytcdhejaoidjecaa
