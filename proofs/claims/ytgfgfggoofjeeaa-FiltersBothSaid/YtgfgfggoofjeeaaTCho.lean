/-
  THE CONTRACTS of tuples.merge, choose, Union, Common, Without.
-/
import Derived.Test.YtgfgfggoofjeeaaTMrg
import Derived.Test.YtgfgfggoofjeeaaTCpt
namespace Go.Proofs.Ytgfgfggoofjeeaa
open Go.RowKit Go.Sort

/-- the tuple, if it is wanted -/
def pk (f : Bool → Bool → Bool) (p q : Bool) (x : Tup) : List Tup := if f p q = true then [x] else []

section
variable (f : Bool → Bool → Bool)
theorem pk_filter (p q : Bool) (x : Tup) (r : List (Tup × Bool × Bool)) : (((x, p, q) :: r).filter fun y => f y.2.1 y.2.2).map (·.1) = pk f p q x ++ (r.filter fun y => f y.2.1 y.2.2).map (·.1) := by
  unfold pk; rw [List.filter_cons]; dsimp only; split <;> simp
theorem chs_nil : chs cmpT f [] [] = [] := by unfold chs; rw [mrg]; rfl
theorem uncons {l : List Tup} (h : 0 < l.length) : l = l[0] :: l.drop 1 := by
  cases l with
  | nil => simp at h
  | cons x r => rfl
theorem chs_l {l : List Tup} (h : 0 < l.length) : chs cmpT f l [] = pk f true false l[0] ++ chs cmpT f (l.drop 1) [] := by
  conv => lhs; rw [uncons h]
  unfold chs; rw [mrg, pk_filter]
theorem chs_r {m : List Tup} (h : 0 < m.length) : chs cmpT f [] m = pk f false true m[0] ++ chs cmpT f [] (m.drop 1) := by
  conv => lhs; rw [uncons h]
  unfold chs; rw [mrg, pk_filter]
theorem chs_lt {l m : List Tup} (hl : 0 < l.length) (hm : 0 < m.length) (h : cmpT l[0] m[0] < 0) : chs cmpT f l m = pk f true false l[0] ++ chs cmpT f (l.drop 1) m := by
  have e2 := uncons hm
  conv => lhs; rw [uncons hl, e2]
  conv => rhs; rw [e2]
  unfold chs; rw [mrg, if_pos h, pk_filter]
theorem chs_eq {l m : List Tup} (hl : 0 < l.length) (hm : 0 < m.length) (h : cmpT l[0] m[0] = 0) : chs cmpT f l m = pk f true true l[0] ++ chs cmpT f (l.drop 1) (m.drop 1) := by
  conv => lhs; rw [uncons hl, uncons hm]
  unfold chs; rw [mrg, if_neg (by omega), if_pos h, pk_filter]
theorem chs_gt {l m : List Tup} (hl : 0 < l.length) (hm : 0 < m.length) (h : 0 < cmpT l[0] m[0]) : chs cmpT f l m = pk f false true m[0] ++ chs cmpT f l (m.drop 1) := by
  have e1 := uncons hl
  conv => lhs; rw [e1, uncons hm]
  conv => rhs; rw [e1]
  unfold chs; rw [mrg, if_neg (by omega), if_neg (by omega), pk_filter]
theorem pk_len (p q : Bool) (x : Tup) : (pk f p q x).length ≤ 1 := by unfold pk; split <;> simp
end

theorem Row.tail {w : World} {b o : Nat} {l : List Tup} (h : Row w (some ⟨b, o, none⟩) l) : Row w (some ⟨b, o + 6, none⟩) (l.drop 1) := fun hl => by
  have hne : l ≠ [] := fun e => by subst e; simp at hl
  obtain ⟨b', o', e, hb, hc⟩ := h hne
  injection e with e
  injection e with e1 e2
  subst e1; subst e2
  refine ⟨b, o + 6, rfl, hb, fun i hi c v hv => ?_⟩
  rw [List.length_drop] at hi
  rw [List.getElem_drop] at hv
  have := hc (1 + i) (by omega) c v hv
  rw [show o + 6 + i * 6 + c = o + (1 + i) * 6 + c by omega]; exact this
theorem Row.end_ {w : World} {A : Option Addr} {l : List Tup} {c : Nat} (hl : l.length ≤ c) (h : c = 1) : Row w A (l.drop 1) := fun hne => by
  exfalso; exact hne (List.drop_eq_nil_of_le (by omega))
/-- the length of a slice -/
def sl : Value → Nat
  | .slice _ n _ => n
  | _ => 0

/-- what merge's loop keeps -/
structure MI (w : World) (pw po F : Nat) (f : Bool → Bool → Bool) (tot : List Tup) (a b : Value) (wr : World) (A B : Option Addr) (ra rb : List Tup) (ca cb : Nat) (acc : List Tup) : Prop where
  ea : a = .slice A ra.length ca
  eb : b = .slice B rb.length cb
  rowA : Row w A ra
  rowB : Row w B rb
  la : ra.length ≤ ca
  lb : rb.length ≤ cb
  st : St w pw po F acc wr
  sum : acc ++ chs cmpT f ra rb = tot
  len : acc.length + ra.length + rb.length ≤ 20000

theorem slv {A : Option Addr} {l : List Tup} {n c d : Nat} (h : n = l.length - 1) (hc : c = d) : Value.slice A n c = .slice A (l.drop 1).length d := by rw [List.length_drop, h, hc]


/-- the pair that is returned with an error -/
def Refuses (k : Int) (w : World) (e : Ending) (w' : World) : Prop := e = .returned (.tuple #[.slice none 0 0, .int .i64 k]) ∧ Grew w w'
/-- the pair that is returned without one -/
def Pairs (w : World) (L : List Tup) (e : Ending) (w' : World) : Prop :=
  ∃ A, e = .returned (.tuple #[.slice A L.length L.length, .int .i64 0]) ∧ Row w' A L ∧ Grew w w' ∧ (A = none ∨ ∃ g, A = some ⟨g, 0, none⟩) ∧ (A = none → L.length = 0)

theorem tis_v (A : Option Addr) (l : List Tup) (c : Nat) (v : Bool) (w : World) (hR : Row w A l) (hn : l.length ≤ maxLen) (hv : isB cmpT l = v) :
    Calls Try.prog 44 #[.slice A l.length c] w fun e w' => e = .returned (.bool v) ∧ Grew w w' := by
  have q := tis A l c w hR hn; rw [hv] at q; exact q


end Go.Proofs.Ytgfgfggoofjeeaa
