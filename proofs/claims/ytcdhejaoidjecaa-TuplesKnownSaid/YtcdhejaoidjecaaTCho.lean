/-
  THE CONTRACTS of tuples.merge, choose, Union, Common, Without.
-/
import Derived.Test.YtcdhejaoidjecaaTMrg
import Derived.Test.YtcdhejaoidjecaaTCpt
namespace Go.Proofs.Ytcdhejaoidjecaa
open Go.RowKit Go.Sort

/-- the tuple, if it is wanted -/
def pk (f : Bool → Bool → Bool) (p q : Bool) (x : Tup) : List Tup := if f p q = true then [x] else []
theorem visit (w : World) (pw po F : Nat) (f : Bool → Bool → Bool) (hF : Picks F f) (acc : List Tup) (x : Tup) (u : Value) (hu : val x = u) (p q : Bool) (wr : World) (h : St w pw po F acc wr) (hn : acc.length + 1 ≤ 100000) :
    Calls Try.prog 65 #[u, .bool p, .bool q, .pointer (some ⟨pw, 0, none⟩), .pointer (some ⟨po, 0, none⟩)] wr (VisitRet w pw po F (acc ++ pk f p q x)) := by
  subst hu
  unfold pk
  cases hf : f p q
  · rw [if_neg (by decide), List.append_nil]; exact visit_no w pw po F f hF acc x p q wr h hf
  · rw [if_pos rfl]; exact visit_yes w pw po F f hF acc x p q wr h hf hn

section
variable (f : Bool → Bool → Bool)
theorem pk_filter (p q : Bool) (x : Tup) (r : List (Tup × Bool × Bool)) : (((x, p, q) :: r).filter fun y => f y.2.1 y.2.2).map (·.1) = pk f p q x ++ (r.filter fun y => f y.2.1 y.2.2).map (·.1) := by
  unfold pk; rw [List.filter_cons]; dsimp only; split <;> simp
theorem chs_nil : chs cmpT f [] [] = [] := by unfold chs; rw [mrg]; rfl
theorem uncons {l : List Tup} (h : 0 < l.length) : l = l[0] :: l.drop 1 := by
  cases l with
  | nil => simp at h
  | cons x r => rfl
theorem chs_l {l : List Tup} (h : 0 < l.length) : chs cmpT f l [] = pk f true false l[0] ++ chs cmpT f (l.drop 1) [] := by
  conv => lhs; rw [uncons h]
  unfold chs; rw [mrg, pk_filter]
theorem chs_r {m : List Tup} (h : 0 < m.length) : chs cmpT f [] m = pk f false true m[0] ++ chs cmpT f [] (m.drop 1) := by
  conv => lhs; rw [uncons h]
  unfold chs; rw [mrg, pk_filter]
theorem chs_lt {l m : List Tup} (hl : 0 < l.length) (hm : 0 < m.length) (h : cmpT l[0] m[0] < 0) : chs cmpT f l m = pk f true false l[0] ++ chs cmpT f (l.drop 1) m := by
  have e2 := uncons hm
  conv => lhs; rw [uncons hl, e2]
  conv => rhs; rw [e2]
  unfold chs; rw [mrg, if_pos h, pk_filter]
theorem chs_eq {l m : List Tup} (hl : 0 < l.length) (hm : 0 < m.length) (h : cmpT l[0] m[0] = 0) : chs cmpT f l m = pk f true true l[0] ++ chs cmpT f (l.drop 1) (m.drop 1) := by
  conv => lhs; rw [uncons hl, uncons hm]
  unfold chs; rw [mrg, if_neg (by omega), if_pos h, pk_filter]
theorem chs_gt {l m : List Tup} (hl : 0 < l.length) (hm : 0 < m.length) (h : 0 < cmpT l[0] m[0]) : chs cmpT f l m = pk f false true m[0] ++ chs cmpT f l (m.drop 1) := by
  have e1 := uncons hl
  conv => lhs; rw [e1, uncons hm]
  conv => rhs; rw [e1]
  unfold chs; rw [mrg, if_neg (by omega), if_neg (by omega), pk_filter]
theorem pk_len (p q : Bool) (x : Tup) : (pk f p q x).length ≤ 1 := by unfold pk; split <;> simp
end

theorem Row.tail {w : World} {b o : Nat} {l : List Tup} (h : Row w (some ⟨b, o, none⟩) l) : Row w (some ⟨b, o + 6, none⟩) (l.drop 1) := fun hl => by
  have hne : l ≠ [] := fun e => by subst e; simp at hl
  obtain ⟨b', o', e, hb, hc⟩ := h hne
  injection e with e
  injection e with e1 e2
  subst e1; subst e2
  refine ⟨b, o + 6, rfl, hb, fun i hi c v hv => ?_⟩
  rw [List.length_drop] at hi
  rw [List.getElem_drop] at hv
  have := hc (1 + i) (by omega) c v hv
  rw [show o + 6 + i * 6 + c = o + (1 + i) * 6 + c by omega]; exact this
theorem Row.end_ {w : World} {A : Option Addr} {l : List Tup} {c : Nat} (hl : l.length ≤ c) (h : c = 1) : Row w A (l.drop 1) := fun hne => by
  exfalso; exact hne (List.drop_eq_nil_of_le (by omega))
/-- the length of a slice -/
def sl : Value → Nat
  | .slice _ n _ => n
  | _ => 0

/-- what merge's loop keeps -/
structure MI (w : World) (pw po F : Nat) (f : Bool → Bool → Bool) (tot : List Tup) (a b : Value) (wr : World) (A B : Option Addr) (ra rb : List Tup) (ca cb : Nat) (acc : List Tup) : Prop where
  ea : a = .slice A ra.length ca
  eb : b = .slice B rb.length cb
  rowA : Row w A ra
  rowB : Row w B rb
  la : ra.length ≤ ca
  lb : rb.length ≤ cb
  st : St w pw po F acc wr
  sum : acc ++ chs cmpT f ra rb = tot
  len : acc.length + ra.length + rb.length ≤ 20000

theorem slv {A : Option Addr} {l : List Tup} {n c d : Nat} (h : n = l.length - 1) (hc : c = d) : Value.slice A n c = .slice A (l.drop 1).length d := by rw [List.length_drop, h, hc]

set_option maxRecDepth 100000 in
set_option maxHeartbeats 8000000 in
theorem tmerge (w : World) (pw po F : Nat) (f : Bool → Bool → Bool) (hF : Picks F f) (A B : Option Addr) (la lb : List Tup) (ca cb : Nat) (wr : World) (hR : Row w A la) (hS : Row w B lb) (h1 : la.length ≤ ca) (h2 : lb.length ≤ cb) (hn : la.length + lb.length ≤ 20000) (h : St w pw po F [] wr) :
    Calls Try.prog 64 #[.slice A la.length ca, .slice B lb.length cb, .func (.func 65) #[] #[.pointer (some ⟨pw, 0, none⟩), .pointer (some ⟨po, 0, none⟩)]] wr (VisitRet w pw po F (chs cmpT f la lb)) := by
  have HF := hid hF; clear hF
  have HS0 : Hid (∃ (A' B' : Option Addr) (ra rb : List Tup) (ca' cb' : Nat) (acc : List Tup), MI w pw po F f (chs cmpT f la lb) (.slice A la.length ca) (.slice B lb.length cb) wr A' B' ra rb ca' cb' acc) :=
    ⟨A, B, la, lb, ca, cb, [], ⟨rfl, rfl, hR, hS, h1, h2, h, by simp, by simp; omega⟩⟩
  generalize chs cmpT f la lb = total at *
  clear hR hS h1 h2 hn h
  go_enter Try.func64, Try.ntmps64
  go_wp2
  go_loopw [0, 1] (fun a b wq => ∃ (A' B' : Option Addr) (ra rb : List Tup) (ca' cb' : Nat) (acc : List Tup), MI w pw po F f total a b wq A' B' ra rb ca' cb' acc) (fun a b _ => sl a + sl b)
  case atStart => exact HS0.out
  case round =>
    clear HS0
    obtain ⟨A', B', ra, rb, ca', cb', acc, rfl, rfl, hRa, hRb, hla, hlb, hst, hsum, hlen⟩ := hrel
    have HSUM := hid hsum; clear hsum
    have HST := hid hst; clear hst
    by_cases ha : 0 < ra.length
    · obtain ⟨b1, o1, rfl, hLa⟩ := (hRa.gw HST.out.gw).at_ ha
      by_cases hb : 0 < rb.length
      · obtain ⟨b2, o2, rfl, hLb⟩ := (hRb.gw HST.out.gw).at_ hb
        have HRA := hid (hRa.gw HST.out.gw)
        have HRB := hid (hRb.gw HST.out.gw)
        obtain ⟨v, hv⟩ : ∃ v, cmpT ra[0] rb[0] = v := ⟨_, rfl⟩
        have HV := hid hv; clear hv
        by_cases h1 : v < 0
        · have HN := hid (chs_lt f ha hb (by rw [HV.out]; exact h1))
          have hp : decide (v ≤ 0) = true := decide_eq_true (by omega)
          have hq : decide (0 ≤ v) = false := decide_eq_false (by omega)
          by_cases hca : ca' = 1
          · go_wp2_with fail
            refine (next_b _ _ ra rb _ _ _ HRA.out HRB.out ha hb v HV.out true false hp hq).mono ?_
            rintro e w1 ⟨rfl, hw1⟩
            have HS1 := hid (HST.out.kept hw1)
            obtain ⟨q0, q1, q2, q3, q4, q5⟩ := ((hLa.below hw1.toBelow).six0 ha).at0
            go_wp2_with (go_at_call 65; refine (visit w pw po F f HF.out acc ra[0] _ rfl true false _ HS1.out (by omega)).mono ?_; rintro e w2 ⟨rfl, hS2⟩)
            go_roundw
            case rel => exact ⟨_, _, (ra.drop 1), rb, _, _, acc ++ pk f true false ra[0], ⟨slv rfl rfl, rfl, Row.end_ hla hca, hRb, by rw [List.length_drop]; omega, hlb, hS2, by rw [List.append_assoc, ← HN.out]; exact HSUM.out, by rw [List.length_append, List.length_drop]; have := pk_len f true false ra[0]; omega⟩⟩
            case measure => simp [sl]; omega
          · go_wp2_with fail
            refine (next_b _ _ ra rb _ _ _ HRA.out HRB.out ha hb v HV.out true false hp hq).mono ?_
            rintro e w1 ⟨rfl, hw1⟩
            have HS1 := hid (HST.out.kept hw1)
            obtain ⟨q0, q1, q2, q3, q4, q5⟩ := ((hLa.below hw1.toBelow).six0 ha).at0
            go_wp2_with (go_at_call 65; refine (visit w pw po F f HF.out acc ra[0] _ rfl true false _ HS1.out (by omega)).mono ?_; rintro e w2 ⟨rfl, hS2⟩)
            go_roundw
            case rel => exact ⟨_, _, (ra.drop 1), rb, _, _, acc ++ pk f true false ra[0], ⟨slv rfl rfl, rfl, hRa.tail, hRb, by rw [List.length_drop]; omega, hlb, hS2, by rw [List.append_assoc, ← HN.out]; exact HSUM.out, by rw [List.length_append, List.length_drop]; have := pk_len f true false ra[0]; omega⟩⟩
            case measure => simp [sl]; omega
        · by_cases h2 : 0 < v
          · have HN := hid (chs_gt f ha hb (by rw [HV.out]; exact h2))
            have hp : decide (v ≤ 0) = false := decide_eq_false (by omega)
            have hq : decide (0 ≤ v) = true := decide_eq_true (by omega)
            by_cases hcb : cb' = 1
            · go_wp2_with fail
              refine (next_b _ _ ra rb _ _ _ HRA.out HRB.out ha hb v HV.out false true hp hq).mono ?_
              rintro e w1 ⟨rfl, hw1⟩
              have HS1 := hid (HST.out.kept hw1)
              obtain ⟨q0, q1, q2, q3, q4, q5⟩ := ((hLb.below hw1.toBelow).six0 hb).at0
              go_wp2_with (go_at_call 65; refine (visit w pw po F f HF.out acc rb[0] _ rfl false true _ HS1.out (by omega)).mono ?_; rintro e w2 ⟨rfl, hS2⟩)
              go_roundw
              case rel => exact ⟨_, _, ra, (rb.drop 1), _, _, acc ++ pk f false true rb[0], ⟨rfl, slv rfl rfl, hRa, Row.end_ hlb hcb, hla, by rw [List.length_drop]; omega, hS2, by rw [List.append_assoc, ← HN.out]; exact HSUM.out, by rw [List.length_append, List.length_drop]; have := pk_len f false true rb[0]; omega⟩⟩
              case measure => simp [sl]; omega
            · go_wp2_with fail
              refine (next_b _ _ ra rb _ _ _ HRA.out HRB.out ha hb v HV.out false true hp hq).mono ?_
              rintro e w1 ⟨rfl, hw1⟩
              have HS1 := hid (HST.out.kept hw1)
              obtain ⟨q0, q1, q2, q3, q4, q5⟩ := ((hLb.below hw1.toBelow).six0 hb).at0
              go_wp2_with (go_at_call 65; refine (visit w pw po F f HF.out acc rb[0] _ rfl false true _ HS1.out (by omega)).mono ?_; rintro e w2 ⟨rfl, hS2⟩)
              go_roundw
              case rel => exact ⟨_, _, ra, (rb.drop 1), _, _, acc ++ pk f false true rb[0], ⟨rfl, slv rfl rfl, hRa, hRb.tail, hla, by rw [List.length_drop]; omega, hS2, by rw [List.append_assoc, ← HN.out]; exact HSUM.out, by rw [List.length_append, List.length_drop]; have := pk_len f false true rb[0]; omega⟩⟩
              case measure => simp [sl]; omega
          · have HN := hid (chs_eq f ha hb (by rw [HV.out]; omega))
            have hp : decide (v ≤ 0) = true := decide_eq_true (by omega)
            have hq : decide (0 ≤ v) = true := decide_eq_true (by omega)
            by_cases hca : ca' = 1
            · by_cases hcb : cb' = 1
              · go_wp2_with fail
                refine (next_b _ _ ra rb _ _ _ HRA.out HRB.out ha hb v HV.out true true hp hq).mono ?_
                rintro e w1 ⟨rfl, hw1⟩
                have HS1 := hid (HST.out.kept hw1)
                obtain ⟨q0, q1, q2, q3, q4, q5⟩ := ((hLa.below hw1.toBelow).six0 ha).at0
                go_wp2_with (go_at_call 65; refine (visit w pw po F f HF.out acc ra[0] _ rfl true true _ HS1.out (by omega)).mono ?_; rintro e w2 ⟨rfl, hS2⟩)
                go_roundw
                case rel => exact ⟨_, _, (ra.drop 1), (rb.drop 1), _, _, acc ++ pk f true true ra[0], ⟨slv rfl rfl, slv rfl rfl, Row.end_ hla hca, Row.end_ hlb hcb, by rw [List.length_drop]; omega, by rw [List.length_drop]; omega, hS2, by rw [List.append_assoc, ← HN.out]; exact HSUM.out, by rw [List.length_append, List.length_drop, List.length_drop]; have := pk_len f true true ra[0]; omega⟩⟩
                case measure => simp [sl]; omega
              · go_wp2_with fail
                refine (next_b _ _ ra rb _ _ _ HRA.out HRB.out ha hb v HV.out true true hp hq).mono ?_
                rintro e w1 ⟨rfl, hw1⟩
                have HS1 := hid (HST.out.kept hw1)
                obtain ⟨q0, q1, q2, q3, q4, q5⟩ := ((hLa.below hw1.toBelow).six0 ha).at0
                go_wp2_with (go_at_call 65; refine (visit w pw po F f HF.out acc ra[0] _ rfl true true _ HS1.out (by omega)).mono ?_; rintro e w2 ⟨rfl, hS2⟩)
                go_roundw
                case rel => exact ⟨_, _, (ra.drop 1), (rb.drop 1), _, _, acc ++ pk f true true ra[0], ⟨slv rfl rfl, slv rfl rfl, Row.end_ hla hca, hRb.tail, by rw [List.length_drop]; omega, by rw [List.length_drop]; omega, hS2, by rw [List.append_assoc, ← HN.out]; exact HSUM.out, by rw [List.length_append, List.length_drop, List.length_drop]; have := pk_len f true true ra[0]; omega⟩⟩
                case measure => simp [sl]; omega
            · by_cases hcb : cb' = 1
              · go_wp2_with fail
                refine (next_b _ _ ra rb _ _ _ HRA.out HRB.out ha hb v HV.out true true hp hq).mono ?_
                rintro e w1 ⟨rfl, hw1⟩
                have HS1 := hid (HST.out.kept hw1)
                obtain ⟨q0, q1, q2, q3, q4, q5⟩ := ((hLa.below hw1.toBelow).six0 ha).at0
                go_wp2_with (go_at_call 65; refine (visit w pw po F f HF.out acc ra[0] _ rfl true true _ HS1.out (by omega)).mono ?_; rintro e w2 ⟨rfl, hS2⟩)
                go_roundw
                case rel => exact ⟨_, _, (ra.drop 1), (rb.drop 1), _, _, acc ++ pk f true true ra[0], ⟨slv rfl rfl, slv rfl rfl, hRa.tail, Row.end_ hlb hcb, by rw [List.length_drop]; omega, by rw [List.length_drop]; omega, hS2, by rw [List.append_assoc, ← HN.out]; exact HSUM.out, by rw [List.length_append, List.length_drop, List.length_drop]; have := pk_len f true true ra[0]; omega⟩⟩
                case measure => simp [sl]; omega
              · go_wp2_with fail
                refine (next_b _ _ ra rb _ _ _ HRA.out HRB.out ha hb v HV.out true true hp hq).mono ?_
                rintro e w1 ⟨rfl, hw1⟩
                have HS1 := hid (HST.out.kept hw1)
                obtain ⟨q0, q1, q2, q3, q4, q5⟩ := ((hLa.below hw1.toBelow).six0 ha).at0
                go_wp2_with (go_at_call 65; refine (visit w pw po F f HF.out acc ra[0] _ rfl true true _ HS1.out (by omega)).mono ?_; rintro e w2 ⟨rfl, hS2⟩)
                go_roundw
                case rel => exact ⟨_, _, (ra.drop 1), (rb.drop 1), _, _, acc ++ pk f true true ra[0], ⟨slv rfl rfl, slv rfl rfl, hRa.tail, hRb.tail, by rw [List.length_drop]; omega, by rw [List.length_drop]; omega, hS2, by rw [List.append_assoc, ← HN.out]; exact HSUM.out, by rw [List.length_append, List.length_drop, List.length_drop]; have := pk_len f true true ra[0]; omega⟩⟩
                case measure => simp [sl]; omega
      · obtain rfl : rb = [] := List.eq_nil_of_length_eq_zero (by omega)
        have HN := hid (chs_l f ha)
        by_cases hca : ca' = 1
        · go_wp2_with fail
          refine (next_l _ _ _ _ _ _ ha).mono ?_
          rintro e w1 ⟨rfl, hw1⟩
          have HS1 := hid (HST.out.kept hw1)
          obtain ⟨q0, q1, q2, q3, q4, q5⟩ := ((hLa.below hw1.toBelow).six0 ha).at0
          go_wp2_with (go_at_call 65; refine (visit w pw po F f HF.out acc ra[0] _ rfl true false _ HS1.out (by omega)).mono ?_; rintro e w2 ⟨rfl, hS2⟩)
          go_roundw
          case rel => exact ⟨_, _, (ra.drop 1), [], _, _, acc ++ pk f true false ra[0], ⟨slv rfl rfl, rfl, Row.end_ hla hca, hRb, by rw [List.length_drop]; omega, hlb, hS2, by rw [List.append_assoc, ← HN.out]; exact HSUM.out, by rw [List.length_append, List.length_drop]; have := pk_len f true false ra[0]; omega⟩⟩
          case measure => simp [sl]; omega
        · go_wp2_with fail
          refine (next_l _ _ _ _ _ _ ha).mono ?_
          rintro e w1 ⟨rfl, hw1⟩
          have HS1 := hid (HST.out.kept hw1)
          obtain ⟨q0, q1, q2, q3, q4, q5⟩ := ((hLa.below hw1.toBelow).six0 ha).at0
          go_wp2_with (go_at_call 65; refine (visit w pw po F f HF.out acc ra[0] _ rfl true false _ HS1.out (by omega)).mono ?_; rintro e w2 ⟨rfl, hS2⟩)
          go_roundw
          case rel => exact ⟨_, _, (ra.drop 1), [], _, _, acc ++ pk f true false ra[0], ⟨slv rfl rfl, rfl, hRa.tail, hRb, by rw [List.length_drop]; omega, hlb, hS2, by rw [List.append_assoc, ← HN.out]; exact HSUM.out, by rw [List.length_append, List.length_drop]; have := pk_len f true false ra[0]; omega⟩⟩
          case measure => simp [sl]; omega
    · obtain rfl : ra = [] := List.eq_nil_of_length_eq_zero (by omega)
      by_cases hb : 0 < rb.length
      · obtain ⟨b2, o2, rfl, hLb⟩ := (hRb.gw HST.out.gw).at_ hb
        have HN := hid (chs_r f hb)
        by_cases hcb : cb' = 1
        · go_wp2_with fail
          refine (next_r _ _ _ _ _ _ hb).mono ?_
          rintro e w1 ⟨rfl, hw1⟩
          have HS1 := hid (HST.out.kept hw1)
          obtain ⟨q0, q1, q2, q3, q4, q5⟩ := ((hLb.below hw1.toBelow).six0 hb).at0
          go_wp2_with (go_at_call 65; refine (visit w pw po F f HF.out acc rb[0] _ rfl false true _ HS1.out (by omega)).mono ?_; rintro e w2 ⟨rfl, hS2⟩)
          go_roundw
          case rel => exact ⟨_, _, [], (rb.drop 1), _, _, acc ++ pk f false true rb[0], ⟨rfl, slv rfl rfl, hRa, Row.end_ hlb hcb, hla, by rw [List.length_drop]; omega, hS2, by rw [List.append_assoc, ← HN.out]; exact HSUM.out, by rw [List.length_append, List.length_drop]; have := pk_len f false true rb[0]; omega⟩⟩
          case measure => simp [sl]; omega
        · go_wp2_with fail
          refine (next_r _ _ _ _ _ _ hb).mono ?_
          rintro e w1 ⟨rfl, hw1⟩
          have HS1 := hid (HST.out.kept hw1)
          obtain ⟨q0, q1, q2, q3, q4, q5⟩ := ((hLb.below hw1.toBelow).six0 hb).at0
          go_wp2_with (go_at_call 65; refine (visit w pw po F f HF.out acc rb[0] _ rfl false true _ HS1.out (by omega)).mono ?_; rintro e w2 ⟨rfl, hS2⟩)
          go_roundw
          case rel => exact ⟨_, _, [], (rb.drop 1), _, _, acc ++ pk f false true rb[0], ⟨rfl, slv rfl rfl, hRa, hRb.tail, hla, by rw [List.length_drop]; omega, hS2, by rw [List.append_assoc, ← HN.out]; exact HSUM.out, by rw [List.length_append, List.length_drop]; have := pk_len f false true rb[0]; omega⟩⟩
          case measure => simp [sl]; omega
      · obtain rfl : rb = [] := List.eq_nil_of_length_eq_zero (by omega)
        have HE : Hid (acc = total) := by have := HSUM.out; rwa [chs_nil, List.append_nil] at this
        go_wp2
        go_end0
        exact ⟨rfl, by rw [← HE.out]; exact HST.out⟩

/-- the pair that is returned with an error -/
def Refuses (k : Int) (w : World) (e : Ending) (w' : World) : Prop := e = .returned (.tuple #[.slice none 0 0, .int .i64 k]) ∧ Grew w w'
/-- the pair that is returned without one -/
def Pairs (w : World) (L : List Tup) (e : Ending) (w' : World) : Prop :=
  ∃ A, e = .returned (.tuple #[.slice A L.length L.length, .int .i64 0]) ∧ Row w' A L ∧ Grew w w' ∧ (A = none ∨ ∃ g, A = some ⟨g, 0, none⟩) ∧ (A = none → L.length = 0)

set_option maxHeartbeats 1000000 in
theorem choose_limit (F : Nat) (A B : Option Addr) (n m ca cb : Nat) (w : World) (h : 4096 < n ∨ 4096 < m) :
    Calls Try.prog 32 #[.slice A n ca, .slice B m cb, .func (.func F) #[] #[]] w (Refuses 3 w) := by
  by_cases hn : 4096 < n
  · go_enter Try.func32, Try.ntmps32
    go_wp2
    go_ret2
    exact ⟨rfl, gw_alloc gw_refl _⟩
  · have hm : 4096 < m := by omega
    go_enter Try.func32, Try.ntmps32
    go_wp2
    go_ret2
    exact ⟨rfl, gw_alloc gw_refl _⟩
theorem tis_v (A : Option Addr) (l : List Tup) (c : Nat) (v : Bool) (w : World) (hR : Row w A l) (hn : l.length ≤ maxLen) (hv : isB cmpT l = v) :
    Calls Try.prog 36 #[.slice A l.length c] w fun e w' => e = .returned (.bool v) ∧ Grew w w' := by
  have q := tis A l c w hR hn; rw [hv] at q; exact q
set_option maxHeartbeats 1000000 in
theorem choose_order (F : Nat) (A B : Option Addr) (la lb : List Tup) (ca cb : Nat) (w : World) (hR : Row w A la) (hS : Row w B lb) (ha : la.length ≤ 4096) (hb : lb.length ≤ 4096) (h : isB cmpT la = false ∨ isB cmpT lb = false) :
    Calls Try.prog 32 #[.slice A la.length ca, .slice B lb.length cb, .func (.func F) #[] #[]] w (Refuses 18 w) := by
  have m1 : la.length ≤ maxLen := Nat.le_trans ha (by decide)
  have m2 : lb.length ≤ maxLen := Nat.le_trans hb (by decide)
  have HR1 := hid (hR.gw (gw_alloc gw_refl (.cells #[.func (.func F) #[] #[]] 69)))
  have HS1 := hid (hS.gw (gw_alloc gw_refl (.cells #[.func (.func F) #[] #[]] 69)))
  clear hR hS
  have M1 := hid m1; clear m1
  have M2 := hid m2; clear m2
  cases h1 : isB cmpT la
  · have H1 := hid h1; clear h1 h
    go_enter Try.func32, Try.ntmps32
    go_wp2_with fail
    refine (tis_v A la ca false _ HR1.out M1.out H1.out).mono ?_
    rintro e w1 ⟨rfl, hw1⟩
    go_wp2
    go_ret2
    exact ⟨rfl, gw_trans (gw_alloc gw_refl _) hw1⟩
  · have h2 : isB cmpT lb = false := by rcases h with h | h; · rw [h1] at h; cases h
                                        · exact h
    have H1 := hid h1; clear h1 h
    have H2 := hid h2; clear h2
    go_enter Try.func32, Try.ntmps32
    go_wp2_with fail
    refine (tis_v A la ca true _ HR1.out M1.out H1.out).mono ?_
    rintro e w1 ⟨rfl, hw1⟩
    go_wp2_with fail
    refine (tis_v B lb cb false _ (HS1.out.gw hw1) M2.out H2.out).mono ?_
    rintro e w2 ⟨rfl, hw2⟩
    go_wp2
    go_ret2
    exact ⟨rfl, gw_trans (gw_trans (gw_alloc gw_refl _) hw1) hw2⟩

set_option maxHeartbeats 2000000 in
theorem choose_good (F : Nat) (f : Bool → Bool → Bool) (hF : Picks F f) (A B : Option Addr) (la lb : List Tup) (ca cb : Nat) (w : World) (hR : Row w A la) (hS : Row w B lb) (hca : la.length ≤ ca) (hcb : lb.length ≤ cb) (ha : la.length ≤ 4096) (hb : lb.length ≤ 4096) (h1 : isB cmpT la = true) (h2 : isB cmpT lb = true) :
    Calls Try.prog 32 #[.slice A la.length ca, .slice B lb.length cb, .func (.func F) #[] #[]] w (Pairs w (chs cmpT f la lb)) := by
  have m1 : la.length ≤ maxLen := Nat.le_trans ha (by decide)
  have m2 : lb.length ≤ maxLen := Nat.le_trans hb (by decide)
  have HR1 := hid (hR.gw (gw_alloc gw_refl (.cells #[.func (.func F) #[] #[]] 69)))
  have HS1 := hid (hS.gw (gw_alloc gw_refl (.cells #[.func (.func F) #[] #[]] 69)))
  have HR0 := hid hR
  have HS0 := hid hS
  clear hR hS
  have M1 := hid m1; clear m1
  have M2 := hid m2; clear m2
  have H1 := hid h1; clear h1
  have H2 := hid h2; clear h2
  have HF := hid hF; clear hF
  have HCA := hid hca; clear hca
  have HCB := hid hcb; clear hcb
  go_enter Try.func32, Try.ntmps32
  go_wp2_with fail
  refine (tis_v A la ca true _ HR1.out M1.out H1.out).mono ?_
  rintro e w1 ⟨rfl, hw1⟩
  go_wp2_with fail
  refine (tis_v B lb cb true _ (HS1.out.gw hw1) M2.out H2.out).mono ?_
  rintro e w2 ⟨rfl, hw2⟩
  have hW : Grew (w.alloc (.cells #[.func (.func F) #[] #[]] 69)) w2 := gw_trans hw1 hw2
  have hz : w.heap.size < w2.heap.size := by have := hW.size; simp at this; omega
  have hfn : w2.cell? ⟨w.heap.size, 0, none⟩ = some (.func (.func F) #[] #[]) := (hW.toBelow.cell (p := ⟨w.heap.size, 0, none⟩) (by simp)).trans (by go_simp)
  have HST : Hid (St w w.heap.size w2.heap.size F [] (w2.alloc (.cells #[.slice none 0 0] 32))) :=
    ⟨by go_simp, by go_simp, ⟨.slice none 0 0, by go_simp, Own.nil _ _⟩, gw_alloc (gw_trans (gw_alloc gw_refl _) hW) _, by simp, hz, Nat.le_refl _⟩
  clear hw1 hw2 hW HR1 HS1
  go_wp2_with fail
  refine (tmerge w w.heap.size w2.heap.size F f HF.out A B la lb ca cb _ HR0.out HS0.out HCA.out HCB.out (by omega) HST.out).mono ?_
  rintro e w3 ⟨rfl, hst⟩
  clear HST
  obtain ⟨v, hv, hown⟩ := hst.out
  obtain ⟨A3, c3, rfl, hR3, hc3, -⟩ := hown.row
  have hA3 : A3 = none ∨ ∃ g, A3 = some ⟨g, 0, none⟩ := by
    rcases hown.2 with ⟨e, _⟩ | ⟨g, cap, cur, e, _⟩
    · injection e with e1; exact .inl e1
    · injection e with e1; exact .inr ⟨g, e1⟩
  have hA4 : A3 = none → (chs cmpT f la lb).length = 0 := fun e => by
    rcases hown.2 with ⟨_, e⟩ | ⟨g, cap, cur, e1, _⟩
    · exact e
    · rw [e] at e1; injection e1 with e1; cases e1
  have hgw := hst.gw
  clear hst hown
  generalize chs cmpT f la lb = L at *
  go_wp2_with fail
  refine (tcut A3 L.length c3 _ hc3).mono ?_
  rintro e w' ⟨rfl, rfl⟩
  go_wp2
  go_ret2
  exact ⟨A3, rfl, hR3, hgw, hA3, hA4⟩

end Go.Proofs.Ytcdhejaoidjecaa
