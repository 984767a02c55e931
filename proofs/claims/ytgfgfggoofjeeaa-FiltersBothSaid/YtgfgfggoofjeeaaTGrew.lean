/-
  WHAT A CALL LEAVES THAT MAKES MEMORY AND DRAWS: 'Grew'; the order of tuples as plain data; the contracts of the Compare functions in these words.
-/
import Derived.Test.YtgfgfggoofjeeaaWOrd
import Derived.Test.YtgfgfggoofjeeaaWROrd
import Derived.Test.YtgfgfggoofjeeaaMOrd
import Derived.Test.YtgfgfggoofjeeaaTMath
import Derived.Sort.Grow
namespace Go.Proofs.Ytgfgfggoofjeeaa
open Go.RowKit Go.Sort

/-- below its old end memory is as it was, and draws were made, if any -/
structure Grew (w w' : World) : Prop extends Below w.heap.size w w' where
  drawn : w.drawn ≤ w'.drawn

section
variable {a b c : World}
theorem gw_refl : Grew a a := ⟨Below.refl _ _, Nat.le_refl _⟩
theorem gw_trans (h : Grew a b) (k : Grew b c) : Grew a c := ⟨g_trans h.toBelow k.toBelow, Nat.le_trans h.drawn k.drawn⟩
theorem gw_alloc (h : Grew a b) (o : Obj) : Grew a (b.alloc o) := ⟨g_alloc h.toBelow o, h.drawn⟩
theorem gw_drew (h : Grew a b) : Grew a b.drew := ⟨g_drew h.toBelow, Nat.le_trans h.drawn (Nat.le_succ _)⟩
theorem gw_drewN (h : Grew a b) (n : Nat) : Grew a (b.drewN n) := ⟨g_drewN h.toBelow n, Nat.le_trans h.drawn (Nat.le_add_right _ _)⟩
theorem gw_set (h : Grew a b) {p : Addr} (hp : a.heap.size ≤ p.block) (u : Value) : Grew a (b.setCell p u) := ⟨g_set h.toBelow hp u, h.drawn⟩
theorem below_grow (w : World) (os : Array Obj) : Below w.heap.size w (grow w os) := ⟨rfl, rfl, rfl, by simp, fun _ h => heap_grow_old w os h⟩
theorem gw_grow (h : Grew a b) (os : Array Obj) : Grew a (grow b os) := ⟨g_trans h.toBelow (below_grow b os), h.drawn⟩
/-- written out: so many draws, these blocks -/
theorem Grew.out (h : Grew a b) : ∃ q os, b = grow (a.drewN q) os := by
  refine ⟨b.drawn - a.drawn, b.heap.extract a.heap.size b.heap.size, ?_⟩
  have hh : b.heap = a.heap ++ b.heap.extract a.heap.size b.heap.size := by
    apply Array.ext_getElem?
    intro k
    rw [Array.getElem?_append]
    by_cases hk : k < a.heap.size
    · rw [if_pos hk]; exact h.block k hk
    · rw [if_neg hk, Array.getElem?_extract]
      by_cases hk2 : k < b.heap.size
      · rw [if_pos (by omega)]; congr 1; omega
      · rw [if_neg (by omega), Array.getElem?_eq_none (by omega)]
  have h1 := h.os; have h2 := h.tape; have h3 := h.output; have h4 := h.drawn
  cases a; cases b
  simp only at h1 h2 h3 h4 hh
  subst h1; subst h2; subst h3
  simp only [grow, World.drewN, World.mk.injEq, and_true, true_and]
  exact ⟨hh, by omega⟩
theorem Grew.of_grow (w : World) (q : Nat) (os : Array Obj) : Grew w (grow (w.drewN q) os) := gw_grow (gw_drewN gw_refl q) os
end

/-- a tuple as plain data -/
structure Tup where
  a : ByteArray
  b : ByteArray
  c : ByteArray
  d : ByteArray
  e : ByteArray
  f : ByteArray
  deriving DecidableEq, Inhabited
/-- the cells of a tuple -/
def enc (x : Tup) : List Value := [.string x.a, .string x.b, .string x.c, .string x.d, .string x.e, .string x.f]
/-- the value of a tuple -/
def val (x : Tup) : Value := .agg #[.string x.a, .string x.b, .string x.c, .string x.d, .string x.e, .string x.f]
/-- the order of tuples -/
def cmpT (x y : Tup) : Int := if cmpG x.a x.b x.c y.a y.b y.c = 0 then cmpG x.d x.e x.f y.d y.e y.f else cmpG x.a x.b x.c y.a y.b y.c
theorem cmpT_z {x y : Tup} (h : cmpG x.a x.b x.c y.a y.b y.c = 0) : cmpT x y = cmpG x.d x.e x.f y.d y.e y.f := by unfold cmpT; rw [if_pos h]
theorem cmpT_n {x y : Tup} (h : ¬ cmpG x.a x.b x.c y.a y.b y.c = 0) : cmpT x y = cmpG x.a x.b x.c y.a y.b y.c := by unfold cmpT; rw [if_neg h]
theorem chainG {a b c d e f x y z : ByteArray} (h : cmpG a b c d e f ≤ 0) (k : cmpG d e f x y z ≤ 0) (e0 : cmpG a b c x y z = 0) : cmpG a b c d e f = 0 ∧ cmpG d e f x y z = 0 := by
  obtain ⟨rfl, rfl, rfl⟩ := cmpG_zero e0
  have := cmpG_anti a b c d e f
  omega
theorem tot : Tot cmpT where
  anti x y := by
    have h := cmpG_anti x.a x.b x.c y.a y.b y.c
    have k := cmpG_anti x.d x.e x.f y.d y.e y.f
    unfold cmpT
    split <;> split <;> omega
  trans x y z h k := by
    have p1 : cmpG x.a x.b x.c y.a y.b y.c ≤ 0 := by unfold cmpT at h; split at h <;> omega
    have k1 : cmpG y.a y.b y.c z.a z.b z.c ≤ 0 := by unfold cmpT at k; split at k <;> omega
    have t1 := cmpG_trans p1 k1
    by_cases e : cmpG x.a x.b x.c z.a z.b z.c = 0
    · obtain ⟨z1, z2⟩ := chainG p1 k1 e
      rw [cmpT_z z1] at h; rw [cmpT_z z2] at k; rw [cmpT_z e]
      exact cmpG_trans h k
    · rw [cmpT_n e]; exact t1
  zero x y h := by
    by_cases e : cmpG x.a x.b x.c y.a y.b y.c = 0
    · rw [cmpT_z e] at h
      obtain ⟨h1, h2, h3⟩ := cmpG_zero e
      obtain ⟨h4, h5, h6⟩ := cmpG_zero h
      cases x; cases y; simp_all
    · rw [cmpT_n e] at h; exact absurd h e

set_option maxHeartbeats 800000 in
theorem compareFields_gw (ss : List (ByteArray × ByteArray)) (b : Nat) (w : World) (hn : ss.length ≤ 100) (hb : b < w.heap.size)
    (hc : ∀ k, (h : k < ss.length) → w.cell? ⟨b, k * 2, none⟩ = some (.string ss[k].1) ∧ w.cell? ⟨b, k * 2 + 1, none⟩ = some (.string ss[k].2)) :
    Calls Try.prog 101 #[.slice (some ⟨b, 0, none⟩) ss.length ss.length] w fun e w' => e = .returned (.int .i64 (lexS ss)) ∧ Grew w w' := by
  have HC := hid hc; clear hc
  go_enter Try.func101, Try.ntmps101
  go_wp2
  go_loopw [8] (fun i wr => ∃ k : Nat, k ≤ ss.length ∧ i = .int .i64 k ∧ lexS (ss.drop k) = lexS ss ∧ Grew w wr) (fun i _ => ss.length - (intOf i).toNat)
  case atStart => exact ⟨0, Nat.zero_le _, rfl, rfl, gw_refl⟩
  case round =>
    obtain ⟨k, hk, rfl, hx, hw⟩ := hrel
    have HX := hid hx; clear hx
    by_cases hlt : k < ss.length
    · have hc0 : wr.cell? ⟨b, k * 2, none⟩ = some (.string ss[k].1) := (hw.cell (p := ⟨b, k * 2, none⟩) hb).trans (HC.out k hlt).1
      have hc1 : wr.cell? ⟨b, k * 2 + 1, none⟩ = some (.string ss[k].2) := (hw.cell (p := ⟨b, k * 2 + 1, none⟩) hb).trans (HC.out k hlt).2
      by_cases hz : cmpS ss[k].1 ss[k].2 = 0
      · have HZ := hid hz; clear hz
        go_wp2_with fail
        refine (strCmpV _ _ 0 _ HZ.out).mono ?_
        rintro e w' ⟨rfl, rfl⟩
        go_wp2
        go_roundw
        case rel => exact ⟨k + 1, by omega, by go_num, (lex_step ss k hlt HZ.out).trans HX.out, gw_alloc hw _⟩
        case measure => simp [intOf]; omega
      · obtain ⟨c, hcz⟩ : ∃ c, cmpS ss[k].1 ss[k].2 = c := ⟨_, rfl⟩
        have hz1 : ¬ c = 0 := fun e => hz (hcz.trans e)
        have HZ := hid hz; clear hz
        have HCZ := hid hcz; clear hcz
        go_wp2_with fail
        refine (strCmpV _ _ c _ HCZ.out).mono ?_
        rintro e w' ⟨rfl, rfl⟩
        go_wp2
        go_ret
        exact ⟨ret_int (HX.out ▸ ((lex_stop ss k hlt HZ.out).trans HCZ.out).symm), gw_alloc hw _⟩
    · go_wp2
      go_ret
      exact ⟨ret_int (HX.out ▸ (lex_end ss k hlt).symm), hw⟩
theorem compareFields3_gw (a b c d e f : ByteArray) (x : Nat) (w : World) (hx : x < w.heap.size)
    (h0 : w.cell? ⟨x, 0, none⟩ = some (.string a)) (h1 : w.cell? ⟨x, 1, none⟩ = some (.string d)) (h2 : w.cell? ⟨x, 2, none⟩ = some (.string b)) (h3 : w.cell? ⟨x, 3, none⟩ = some (.string e))
    (h4 : w.cell? ⟨x, 4, none⟩ = some (.string c)) (h5 : w.cell? ⟨x, 5, none⟩ = some (.string f)) :
    Calls Try.prog 101 #[.slice (some ⟨x, 0, none⟩) 3 3] w fun r w' => r = .returned (.int .i64 (cmpG a b c d e f)) ∧ Grew w w' :=
  compareFields_gw [(a, d), (b, e), (c, f)] x w (by simp) hx (fun k hk => match k, hk with | 0, _ => ⟨h0, h1⟩ | 1, _ => ⟨h2, h3⟩ | 2, _ => ⟨h4, h5⟩)
set_option maxHeartbeats 800000 in
theorem compareGoal_gw (a b c d e f : ByteArray) (w : World) :
    Calls Try.prog 84 #[.agg #[.string a, .string b, .string c], .agg #[.string d, .string e, .string f]] w fun r w' => r = .returned (.int .i64 (cmpG a b c d e f)) ∧ Grew w w' := by
  go_enter Try.func84, Try.ntmps84
  go_wp2_with fail
  refine (compareFields3_gw a b c d e f _ _ (by simp) (by go_simp) (by go_simp) (by go_simp) (by go_simp) (by go_simp) (by go_simp)).mono ?_
  rintro e w' ⟨rfl, hw⟩
  go_wp2
  go_ret
  exact ⟨rfl, gw_trans (gw_alloc (gw_alloc (gw_alloc gw_refl _) _) _) hw⟩
set_option maxHeartbeats 800000 in
theorem compareSubject_gw (a b c d e f : ByteArray) (w : World) :
    Calls Try.prog 78 #[.agg #[.string a, .string b, .string c], .agg #[.string d, .string e, .string f]] w fun r w' => r = .returned (.int .i64 (cmpG a b c d e f)) ∧ Grew w w' := by
  go_enter Try.func78, Try.ntmps78
  go_wp2_with fail
  refine (compareFields3_gw a b c d e f _ _ (by simp) (by go_simp) (by go_simp) (by go_simp) (by go_simp) (by go_simp) (by go_simp)).mono ?_
  rintro e w' ⟨rfl, hw⟩
  go_wp2
  go_ret
  exact ⟨rfl, gw_trans (gw_alloc (gw_alloc (gw_alloc gw_refl _) _) _) hw⟩

theorem compareGoal_v (a b c d e f : ByteArray) (v : Int) (w : World) (h : cmpG a b c d e f = v) :
    Calls Try.prog 84 #[.agg #[.string a, .string b, .string c], .agg #[.string d, .string e, .string f]] w fun r w' => r = .returned (.int .i64 v) ∧ Grew w w' := by
  have q := compareGoal_gw a b c d e f w; rw [h] at q; exact q

set_option maxHeartbeats 800000 in
theorem tcmp (x y : Tup) (w : World) :
    Calls Try.prog 53 #[val x, val y] w fun r w' => r = .returned (.int .i64 (cmpT x y)) ∧ Grew w w' := by
  obtain ⟨a, b, c, d, e, f⟩ := x
  obtain ⟨a', b', c', d', e', f'⟩ := y
  obtain ⟨v, hv⟩ : ∃ v, cmpG a b c a' b' c' = v := ⟨_, rfl⟩
  by_cases hz : v = 0
  · subst hz
    have E := hid (cmpT_z (x := ⟨a, b, c, d, e, f⟩) (y := ⟨a', b', c', d', e', f'⟩) hv)
    have HV := hid hv; clear hv
    show Calls _ _ #[.agg #[.string a, .string b, .string c, .string d, .string e, .string f], .agg #[.string a', .string b', .string c', .string d', .string e', .string f']] _ _
    go_enter Try.func53, Try.ntmps53
    go_wp2_with fail
    refine (compareGoal_v _ _ _ _ _ _ 0 _ HV.out).mono ?_
    rintro r w1 ⟨rfl, hw⟩
    have o1 := own_cells hw.toBelow w.heap.size (by simp; omega)
    have o2 := own_cells hw.toBelow (w.heap.size + 1) (by simp)
    have x3 : w1.cell? ⟨w.heap.size, 3, none⟩ = some (.string d) := (o1 3).1.trans (by go_simp)
    have x4 : w1.cell? ⟨w.heap.size, 4, none⟩ = some (.string e) := (o1 4).1.trans (by go_simp)
    have x5 : w1.cell? ⟨w.heap.size, 5, none⟩ = some (.string f) := (o1 5).1.trans (by go_simp)
    have y3 : w1.cell? ⟨w.heap.size + 1, 3, none⟩ = some (.string d') := (o2 3).1.trans (by go_simp)
    have y4 : w1.cell? ⟨w.heap.size + 1, 4, none⟩ = some (.string e') := (o2 4).1.trans (by go_simp)
    have y5 : w1.cell? ⟨w.heap.size + 1, 5, none⟩ = some (.string f') := (o2 5).1.trans (by go_simp)
    clear o1 o2
    go_wp2_with fail
    refine (compareSubject_gw _ _ _ _ _ _ _).mono ?_
    rintro r w2 ⟨rfl, hw2⟩
    go_wp2
    go_ret
    exact ⟨ret_int E.out.symm, gw_trans (gw_trans (gw_alloc (gw_alloc gw_refl _) _) hw) hw2⟩
  · have E : Hid (cmpT ⟨a, b, c, d, e, f⟩ ⟨a', b', c', d', e', f'⟩ = v) := (cmpT_n (x := ⟨a, b, c, d, e, f⟩) (y := ⟨a', b', c', d', e', f'⟩) (by rw [hv]; exact hz)).trans hv
    have HV := hid hv; clear hv
    show Calls _ _ #[.agg #[.string a, .string b, .string c, .string d, .string e, .string f], .agg #[.string a', .string b', .string c', .string d', .string e', .string f']] _ _
    go_enter Try.func53, Try.ntmps53
    go_wp2_with fail
    refine (compareGoal_v _ _ _ _ _ _ v _ HV.out).mono ?_
    rintro r w1 ⟨rfl, hw⟩
    go_wp2
    go_ret
    exact ⟨ret_int E.out.symm, gw_trans (gw_alloc (gw_alloc gw_refl _) _) hw⟩

end Go.Proofs.Ytgfgfggoofjeeaa
