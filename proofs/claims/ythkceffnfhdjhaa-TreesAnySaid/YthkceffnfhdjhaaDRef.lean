/-
  THE CONTRACTS of the reference of layer 5: Put, Drop, Get, Rank, Range, Least.
-/
import Derived.Test.YthkceffnfhdjhaaDOrd
import Derived.Deep.LoopGhost
namespace Go.Proofs.Ythkceffnfhdjhaa
open Go.RowKit Go.Deep

/-- the slice at A holds the reference's pairs l -/
def RowQ (w : World) (A : Option Addr) (l : List (Int × Int)) : Prop :=
  l ≠ [] → ∃ (g : Nat) (arr : Array Value), A = some ⟨g, 0, none⟩ ∧ w.heap[g]? = some (.cells arr 47 (0, 0)) ∧ ∀ i (p : Int × Int), l[i]? = some p → arr[2 * i]? = some (.int .i64 p.1) ∧ arr[2 * i + 1]? = some (.int .i64 p.2)
theorem RowQ.below {w w' : World} {A : Option Addr} {l : List (Int × Int)} (h : RowQ w A l) (hb : Below w.heap.size w w') : RowQ w' A l := fun hne => by
  obtain ⟨g, arr, e, hg, hx⟩ := h hne
  exact ⟨g, arr, e, (hb.block g (Array.getElem?_eq_some_iff.1 hg).1).trans hg, hx⟩
theorem RowQ.at_ {w : World} {A : Option Addr} {l : List (Int × Int)} (h : RowQ w A l) {k : Nat} {p : Int × Int} (hk : l[k]? = some p) : ∃ g, A = some ⟨g, 0, none⟩ ∧ w.cell? ⟨g, k * 2, none⟩ = some (.int .i64 p.1) ∧ w.cell? ⟨g, k * 2 + 1, none⟩ = some (.int .i64 p.2) := by
  obtain ⟨g, arr, e, hg, hx⟩ := h (fun e => by subst e; cases hk)
  obtain ⟨e1, e2⟩ := hx k p hk
  rw [Nat.mul_comm] at e1 e2
  exact ⟨g, e, (DI.box_cell hg _).trans e1, (DI.box_cell hg _).trans e2⟩
def OwnQ (w : World) (B : Nat) (v : Value) (l : List (Int × Int)) : Prop := w.ownsRow B 47 2 v l.length (l.flatMap DI.encP)
theorem OwnQ.nil (w : World) (B : Nat) : OwnQ w B (.slice none 0 0) [] := World.ownsRow_nil _ _ _ _
theorem OwnQ.row {w : World} {B : Nat} {v : Value} {l : List (Int × Int)} (h : OwnQ w B v l) : ∃ A c, v = .slice A l.length c ∧ RowQ w A l := by
  rcases h.2 with ⟨rfl, hn⟩ | ⟨g, cap, cur, rfl, hb, hg, hc, hm, hsz, ht⟩
  · refine ⟨none, 0, by rw [hn], fun hne => absurd (List.eq_nil_of_length_eq_zero hn) hne⟩
  · refine ⟨_, cap, rfl, fun _ => ⟨g, cur, rfl, hg, fun i p hp => ?_⟩⟩
    have hi : i < l.length := (List.getElem?_eq_some_iff.1 hp).1
    obtain ⟨e1, e2⟩ := DI.encP_get l i p hp
    rw [← ht, List.getElem?_take, if_pos (by omega), Array.getElem?_toList] at e1 e2
    exact ⟨e1, e2⟩
/-- the call returns a list of its own -/
def GivesQ (w : World) (l : List (Int × Int)) (e : Ending) (w' : World) : Prop := ∃ A c, e = .returned (.slice A l.length c) ∧ RowQ w' A l ∧ Below w.heap.size w w'
theorem infoQ : (Try.prog.info? 47).map (fun i => (i.zero, i.size, i.bytes)) = some (some (.agg #[.int .i64 0, .int .i64 0]), 2, 16) := by kernel_rfl
theorem below_grown {n : Nat} {a b c : World} {v : Value} {o : Obj} {B size k : Nat} {e : TypeId} {xs : List Value} (h : Below n a b) (hn : n ≤ B) (hb : n ≤ b.heap.size) (ho : (b.alloc o).ownsRow B e size v k xs) (hg : (b.alloc o).grownBy c v.ownBlock) : Below n a c := by
  refine ⟨hg.os.trans h.os, hg.tape.trans h.tape, hg.output.trans h.output, Nat.le_trans h.size (by have := hg.size; simp at this; omega), fun i hi => ?_⟩
  have hi2 : i < b.heap.size := by omega
  rw [hg.block i (by simp; omega) (fun e => by have := (ho.lt i e.symm).1; omega)]
  rw [((g_alloc (g_refl (a := b)) o).block i hi2)]
  exact h.block i hi
/-- append of one pair, as the walk asks it -/
theorem wp_appQ {ops : Array Oper} {rest : List Oper} {o : Oper} {a : Act} {w : World} {Q : Exit → Act → World → Prop} (s x : Operand) (hgd : o.guard = none)
    (ho : o.op = .call { callee := .builtin .append, args := #[s, x], argTypes := #[28, 28] })
    (B : Nat) (v : Value) (l : List (Int × Int)) (n : Nat) (b : World) (p : Int × Int) (hs : a.eval s = v) (hx : a.eval x = .slice (some ⟨b.heap.size, 0, none⟩) 1 1) (hw : w = b.alloc (.cells #[.int .i64 p.1, .int .i64 p.2] 47 (0, 0)))
    (hown : OwnQ b B v l) (hn : l.length + 1 ≤ 1000000) (hB : B ≤ b.heap.size) (hnB : n ≤ B) {a0 : World} (hbel : Below n a0 b)
    (h : ∀ v' w', OwnQ w' B v' (l ++ [p]) → Below n a0 w' → wpList Try.prog ops Q rest (a.put o.dst v') w') : wpList Try.prog ops Q (o :: rest) a w := by
  obtain ⟨i0, hi, hz0, hz1, hz2⟩ := info_parts infoQ
  subst hw
  have hal := hown.alloc (.cells #[.int .i64 p.1, .int .i64 p.2] 47 (0, 0))
  refine wpList_append_own_at (P := Try.prog) _ hgd s x 28 ho B 47 i0 _ 2 16 Try.underlying28 hi hz0 hz1 hz2 rfl (by decide) v l.length (l.flatMap DI.encP) hs hal ⟨b.heap.size, 0, none⟩ 1 1 (DI.encP p) hx rfl (DI.cell_two _ _ _ _) (by intro u hu; simp [DI.encP] at hu; rcases hu with rfl | rfl <;> rfl) (by unfold maxLen; omega) (by omega) (by simp; omega) ?_
  intro v' w' h1 h2 _ _
  refine h v' w' ?_ (below_grown hbel hnB (by omega) hal h2)
  unfold OwnQ
  rw [List.length_append, List.flatMap_append, List.flatMap_singleton]
  exact h1

set_option maxRecDepth 20000 in
set_option maxHeartbeats 4000000 in
theorem rput_any (A : Option Addr) (c : Nat) (l : List (Int × Int)) (k v : Int) (w : World) (hR : RowQ w A l) (hn : l.length ≤ 400000) :
    Calls Try.prog 11 #[.slice A l.length c, .int .i64 k, .int .i64 v] w (GivesQ w (Tr.rp k v false l)) := by
  have HR := hid hR
  have HN := hid hn
  clear hR
  generalize hL : l.length = n at *
  have HLN := hid hL
  clear hL
  go_enter Try.func11, Try.ntmps11
  go_wp2
  go_loopg [7, 8, 9] n (fun m u bp x wr => ∃ (i : Nat) (put : Bool) (out : List (Int × Int)), m = n - i ∧ i ≤ n ∧ x = .int .i64 (i : Nat) ∧ bp = .bool put ∧ OwnQ wr w.heap.size u out ∧ out.length ≤ 2 * i ∧ out ++ Tr.rp k v put (l.drop i) = Tr.rp k v false l ∧ Below w.heap.size w wr)
  case atStart => exact ⟨0, false, [], rfl, Nat.zero_le _, rfl, rfl, OwnQ.nil _ _, by simp, rfl, g_refl⟩
  case round =>
    obtain ⟨i, put, out, hm, hi, rfl, rfl, ho, hol, hq, hw⟩ := hrel
    have HO := hid ho
    have HOL := hid hol
    have HQ := hid hq
    have HW := hid hw
    have HM := hid hm
    have HI := hid hi
    have hn1 : n ≤ 400000 := HN.out
    have b0 : (0 : Int) ≤ (i : Int) := by omega
    have b1 : (i : Int) ≤ 400000 := by omega
    have HBS := hid (show w.heap.size ≤ wr.heap.size from HW.out.size)
    by_cases hlt : i < n
    · have hil : i < l.length := by rw [HLN.out]; exact hlt
      obtain ⟨⟨q, y⟩, hp⟩ : ∃ p, l[i]? = some p := ⟨_, List.getElem?_eq_getElem hil⟩
      have hd : l.drop i = (q, y) :: l.drop (i + 1) := by
        rw [List.drop_eq_getElem_cons hil]
        rw [List.getElem?_eq_getElem hil] at hp; injection hp with hp; rw [hp]
      obtain ⟨g, rfl, s0, s1⟩ := (HR.out.below HW.out).at_ hp
      have HD := hid hd
      have HLT := hid hlt
      have hlt' : (i : Int) < (n : Int) := by omega
      clear ho hol hq hw hm hi hd hil hp hn1 hlt
      by_cases hk : q = k
      · subst hk
        clear s1
        go_wp2_with (at_builtin; refine wp_appQ _ _ rfl rfl w.heap.size _ out w.heap.size wr (q, v) rfl rfl rfl HO.out (by have h1 := HOL.out; have h2 := HN.out; have h3 := HLT.out; omega) HBS.out (Nat.le_refl _) HW.out ?_; intro v1 w1 ho1 hw1)
        go_wp2
        go_roundg (n - (i + 1))
        case measure => rw [HM.out]; have := HLT.out; omega
        case rel => exact ⟨i + 1, true, out ++ [(q, v)], rfl, HLT.out, by go_num, rfl, ho1, by rw [List.length_append, List.length_singleton]; have := HOL.out; omega, by rw [← HQ.out, HD.out, Tr.rp_eq, List.append_assoc]; rfl, hw1⟩
      · have hk2 : (q == k) = false := by simp [hk]
        have HK := hid hk
        by_cases hb : put = false ∧ k < q
        · obtain ⟨rfl, hb⟩ := hb
          have HB := hid hb
          clear hk
          have hli : l[i]? = some (q, y) := by
            have h1 : i < l.length := by rw [HLN.out]; exact HLT.out
            have h := congrArg (fun t => t[0]?) HD.out
            simp at h
            exact h
          have HLI := hid (fun (W : World) (hW : Below w.heap.size w W) => (HR.out.below hW).at_ hli)
          clear hli
          go_wp2_with (first | (at_builtin; refine wp_appQ _ _ rfl rfl w.heap.size _ (out ++ [(k, v)]) w.heap.size w1 (q, y) rfl rfl rfl HO1.out (by have h1 := HOL.out; have h2 := HN.out; have h3 := HLT.out; rw [List.length_append, List.length_singleton]; omega) HB1.out (Nat.le_refl _) HW1.out ?_; intro v2 w2 ho2 hw2) | ((at_builtin; refine wp_appQ _ _ rfl rfl w.heap.size _ out w.heap.size wr (k, v) rfl rfl rfl HO.out (by have h1 := HOL.out; have h2 := HN.out; have h3 := HLT.out; omega) HBS.out (Nat.le_refl _) HW.out ?_; intro v1 w1 ho1 hw1); obtain ⟨g2, e2, t0, t1⟩ := HLI.out w1 hw1; obtain rfl : g2 = g := (by injection e2 with e2; injection e2 with e2; exact e2.symm); clear s0 s1 e2; have HO1 := hid ho1; have HW1 := hid hw1; have HB1 := hid (show w.heap.size ≤ w1.heap.size from hw1.size); clear ho1 hw1))
          go_wp2
          go_roundg (n - (i + 1))
          case measure => rw [HM.out]; have := HLT.out; omega
          case rel => exact ⟨i + 1, true, (out ++ [(k, v)]) ++ [(q, y)], rfl, HLT.out, by go_num, rfl, ho2, by rw [List.length_append, List.length_append, List.length_singleton, List.length_singleton]; have := HOL.out; omega, by rw [← HQ.out, HD.out, Tr.rp_ins HK.out HB.out, List.append_assoc, List.append_assoc]; rfl, hw2⟩
        · have HB := hid hb
          cases put with
          | false =>
            have HB2 := hid (show ¬ k < q from fun h => hb ⟨rfl, h⟩)
            have hb3 : decide (k < q) = false := by simp only [true_and, Int.not_lt] at hb; simp; omega
            clear hk hb
            go_wp2_with (at_builtin; refine wp_appQ _ _ rfl rfl w.heap.size _ out w.heap.size wr (q, y) rfl rfl rfl HO.out (by have h1 := HOL.out; have h2 := HN.out; have h3 := HLT.out; omega) HBS.out (Nat.le_refl _) HW.out ?_; intro v1 w1 ho1 hw1)
            go_wp2
            go_roundg (n - (i + 1))
            case measure => rw [HM.out]; have := HLT.out; omega
            case rel => exact ⟨i + 1, false, out ++ [(q, y)], rfl, HLT.out, by go_num, rfl, ho1, by rw [List.length_append, List.length_singleton]; have := HOL.out; omega, by rw [← HQ.out, HD.out, Tr.rp_skip HK.out (fun h => absurd h.2 (by have := HB2.out; omega)), List.append_assoc]; rfl, hw1⟩
          | true =>
            clear hk hb
            go_wp2_with (at_builtin; refine wp_appQ _ _ rfl rfl w.heap.size _ out w.heap.size wr (q, y) rfl rfl rfl HO.out (by have h1 := HOL.out; have h2 := HN.out; have h3 := HLT.out; omega) HBS.out (Nat.le_refl _) HW.out ?_; intro v1 w1 ho1 hw1)
            go_wp2
            go_roundg (n - (i + 1))
            case measure => rw [HM.out]; have := HLT.out; omega
            case rel => exact ⟨i + 1, true, out ++ [(q, y)], rfl, HLT.out, by go_num, rfl, ho1, by rw [List.length_append, List.length_singleton]; have := HOL.out; omega, by rw [← HQ.out, HD.out, Tr.rp_skip HK.out HB.out, List.append_assoc]; rfl, hw1⟩
    · have hin : i = n := by omega
      have hni : decide ((i : Int) < (n : Int)) = false := by simp; omega
      have hd0 : l.drop i = [] := List.drop_of_length_le (by rw [HLN.out]; omega)
      have HD := hid hd0
      have HLT := hid (show i ≤ n by omega)
      clear ho hol hq hw hm hi hn1 hlt hd0 HR
      subst hin
      clear hni
      have hni : ¬ (i : Int) < (i : Int) := by omega
      cases put with
      | true =>
        go_wp2
        obtain ⟨A2, c2, rfl, hr⟩ := HO.out.row
        go_ret
        exact ⟨A2, c2, by rw [← HQ.out, HD.out]; simp [Tr.rp], by rw [← HQ.out, HD.out]; simpa [Tr.rp] using hr, HW.out⟩
      | false =>
        go_wp2_with (at_builtin; refine wp_appQ _ _ rfl rfl w.heap.size _ out w.heap.size wr (k, v) rfl rfl rfl HO.out (by have h1 := HOL.out; have h2 := HN.out; have h3 := HLT.out; omega) HBS.out (Nat.le_refl _) HW.out ?_; intro v1 w1 ho1 hw1)
        obtain ⟨A2, c2, rfl, hr⟩ := ho1.row
        go_wp2
        go_ret
        exact ⟨A2, c2, by rw [← HQ.out, HD.out]; simp [Tr.rp], by rw [← HQ.out, HD.out]; simpa [Tr.rp] using hr, hw1⟩
set_option maxRecDepth 20000 in
set_option maxHeartbeats 4000000 in
theorem rdrop_any (A : Option Addr) (c : Nat) (l : List (Int × Int)) (k : Int) (w : World) (hR : RowQ w A l) (hn : l.length ≤ 400000) :
    Calls Try.prog 13 #[.slice A l.length c, .int .i64 k] w (GivesQ w (Tr.dropL id l k)) := by
  have HR := hid hR
  have HN := hid hn
  clear hR
  generalize hL : l.length = n at *
  have HLN := hid hL
  clear hL
  go_enter Try.func13, Try.ntmps13
  go_wp2
  go_loopg [5, 6] n (fun m u x wr => ∃ (i : Nat), m = n - i ∧ i ≤ n ∧ x = .int .i64 (i : Nat) ∧ OwnQ wr w.heap.size u (Tr.dropL id (l.take i) k) ∧ Below w.heap.size w wr)
  case atStart => exact ⟨0, rfl, Nat.zero_le _, rfl, OwnQ.nil _ _, g_refl⟩
  case round =>
    obtain ⟨i, hm, hi, rfl, ho, hw⟩ := hrel
    have HO := hid ho
    have HOL := hid (show (Tr.dropL id (l.take i) k).length ≤ 2 * i by have := Tr.drop_len (f := id) (k := k) (l.take i); rw [List.length_take] at this; omega)
    have HW := hid hw
    have HM := hid hm
    clear ho hw hm
    have b0 : (0 : Int) ≤ (i : Int) := by omega
    have b1 : (i : Int) ≤ 400000 := by have := HN.out; omega
    have HBS := hid (show w.heap.size ≤ wr.heap.size from HW.out.size)
    by_cases hlt : i < n
    · have hil : i < l.length := by rw [HLN.out]; exact hlt
      obtain ⟨⟨q, y⟩, hp⟩ : ∃ p, l[i]? = some p := ⟨_, List.getElem?_eq_getElem hil⟩
      have htk : l.take (i + 1) = l.take i ++ [(q, y)] := by
        rw [List.take_succ_eq_append_getElem hil]
        rw [List.getElem?_eq_getElem hil] at hp; injection hp with hp; rw [hp]
      obtain ⟨g, rfl, s0, s1⟩ := (HR.out.below HW.out).at_ hp
      have HT := hid htk
      have HP := hid hp
      have HLT := hid hlt
      have hlt' : (i : Int) < (n : Int) := by omega
      clear hil hp htk hlt
      by_cases hk : q = k
      · subst hk
        clear s1
        go_wp2
        go_roundg (n - (i + 1))
        case measure => rw [HM.out]; have := HLT.out; omega
        case rel => exact ⟨i + 1, rfl, HLT.out, by go_num, by rw [HT.out]; unfold Tr.dropL; rw [List.filter_append, List.filter_cons_of_neg (by simp), List.filter_nil, List.append_nil]; exact HO.out, HW.out⟩
      · have hk2 : (q == k) = false := by simp [hk]
        have HK := hid hk
        clear hk
        go_wp2_with (at_builtin; refine wp_appQ _ _ rfl rfl w.heap.size _ (Tr.dropL id (l.take i) k) w.heap.size wr (q, y) rfl rfl rfl HO.out (by have h1 := HOL.out; have h2 := HN.out; have h3 := HLT.out; omega) HBS.out (Nat.le_refl _) HW.out ?_; intro v1 w1 ho1 hw1)
        go_wp2
        go_roundg (n - (i + 1))
        case measure => rw [HM.out]; have := HLT.out; omega
        case rel => exact ⟨i + 1, rfl, HLT.out, by go_num, by rw [HT.out]; unfold Tr.dropL at ho1 ⊢; rw [List.filter_append, List.filter_cons_of_pos (by simpa using HK.out), List.filter_nil]; exact ho1, hw1⟩
    · have hin : i = n := by omega
      subst hin
      have HTK := hid (show l.take i = l from List.take_of_length_le (by rw [HLN.out]; exact Nat.le_refl _))
      have hni : ¬ (i : Int) < (i : Int) := by omega
      clear hlt HR
      rw [HTK.out] at HO
      go_wp2
      obtain ⟨A2, c2, rfl, hr⟩ := HO.out.row
      go_ret
      exact ⟨A2, c2, rfl, hr, HW.out⟩

theorem rk_snoc {t : List (Int × Int)} {q y k : Int} (h : q < k) : Tr.rkL id (t ++ [(q, y)]) k = Tr.rkL id t k + 1 := by
  rw [Tr.rk_app]; simp [Tr.rkL, h]
theorem rk_snoc0 {t : List (Int × Int)} {q y k : Int} (h : k ≤ q) : Tr.rkL id (t ++ [(q, y)]) k = Tr.rkL id t k := by
  rw [Tr.rk_app]; simp [Tr.rkL]; omega
/-- what the reference's Get returns -/
def GetP (l : List (Int × Int)) (k : Int) (w : World) (e : Ending) (w' : World) : Prop := w' = w ∧ ((∃ (i : Nat) (v : Int), l[i]? = some (k, v) ∧ e = .returned (.int .i64 (i : Nat))) ∨ ((∀ p ∈ l, p.1 ≠ k) ∧ e = .returned (.int .i64 (-1))))
set_option maxRecDepth 20000 in
set_option maxHeartbeats 4000000 in
theorem rget_any (A : Option Addr) (c : Nat) (l : List (Int × Int)) (k : Int) (w : World) (hR : RowQ w A l) (hn : l.length ≤ 400000) :
    Calls Try.prog 17 #[.slice A l.length c, .int .i64 k] w (GetP l k w) := by
  have HR := hid hR
  have HN := hid hn
  clear hR
  generalize hL : l.length = n at *
  have HLN := hid hL
  clear hL
  go_enter Try.func17, Try.ntmps17
  go_wp2
  go_loopg [5] n (fun m x wr => ∃ (i : Nat), m = n - i ∧ i ≤ n ∧ x = .int .i64 (i : Nat) ∧ (∀ p ∈ l.take i, p.1 ≠ k) ∧ wr = w)
  case atStart => exact ⟨0, rfl, Nat.zero_le _, rfl, (by simp), rfl⟩
  case round =>
    obtain ⟨i, hm, hi, rfl, ho, rfl⟩ := hrel
    have HO := hid ho
    have HW := hid (g_refl (a := wr))
    have HM := hid hm
    clear ho hm
    have b0 : (0 : Int) ≤ (i : Int) := by omega
    have b1 : (i : Int) ≤ 400000 := by have := HN.out; omega
    have HBS := hid (show wr.heap.size ≤ wr.heap.size from HW.out.size)
    by_cases hlt : i < n
    · have hil : i < l.length := by rw [HLN.out]; exact hlt
      obtain ⟨⟨q, y⟩, hp⟩ : ∃ p, l[i]? = some p := ⟨_, List.getElem?_eq_getElem hil⟩
      have htk : l.take (i + 1) = l.take i ++ [(q, y)] := by
        rw [List.take_succ_eq_append_getElem hil]
        rw [List.getElem?_eq_getElem hil] at hp; injection hp with hp; rw [hp]
      obtain ⟨g, rfl, s0, s1⟩ := (HR.out.below HW.out).at_ hp
      have HT := hid htk
      have HP := hid hp
      have HLT := hid hlt
      have hlt' : (i : Int) < (n : Int) := by omega
      clear hil hp htk hlt
      by_cases hk : q = k
      · subst hk
        clear s1
        go_wp2
        go_ret
        exact ⟨rfl, .inl ⟨i, y, HP.out, rfl⟩⟩
      · have hk2 : (q == k) = false := by simp [hk]
        have HK := hid hk
        clear hk
        go_wp2
        go_roundg (n - (i + 1))
        case measure => rw [HM.out]; have := HLT.out; omega
        case rel => exact ⟨i + 1, rfl, HLT.out, by go_num, (by intro p hp; rw [HT.out] at hp; rcases List.mem_append.1 hp with hp | hp; exact HO.out p hp; rw [List.mem_singleton.1 hp]; exact HK.out), rfl⟩
    · have hin : i = n := by omega
      subst hin
      have HTK := hid (show l.take i = l from List.take_of_length_le (by rw [HLN.out]; exact Nat.le_refl _))
      have hni : ¬ (i : Int) < (i : Int) := by omega
      clear hlt HR
      rw [HTK.out] at HO
      go_wp2
      go_ret
      exact ⟨rfl, .inr ⟨HO.out, rfl⟩⟩

set_option maxRecDepth 20000 in
set_option maxHeartbeats 4000000 in
theorem rrank_any (A : Option Addr) (c : Nat) (l : List (Int × Int)) (k : Int) (w : World) (hR : RowQ w A l) (hn : l.length ≤ 400000) :
    Calls Try.prog 20 #[.slice A l.length c, .int .i64 k] w fun e w' => w' = w ∧ e = .returned (.int .i64 (Tr.rkL id l k : Nat)) := by
  have HR := hid hR
  have HN := hid hn
  clear hR
  generalize hL : l.length = n at *
  have HLN := hid hL
  clear hL
  go_enter Try.func20, Try.ntmps20
  go_wp2
  go_loopg [5, 6] n (fun m z x wr => ∃ (i : Nat), m = n - i ∧ i ≤ n ∧ x = .int .i64 (i : Nat) ∧ z = .int .i64 (Tr.rkL id (l.take i) k : Nat) ∧ wr = w)
  case atStart => exact ⟨0, rfl, Nat.zero_le _, rfl, rfl, rfl⟩
  case round =>
    obtain ⟨i, hm, hi, rfl, rfl, rfl⟩ := hrel
    have HW := hid (g_refl (a := wr))
    have HM := hid hm
    have hrk : Tr.rkL id (l.take i) k ≤ i := by unfold Tr.rkL; have := List.countP_le_length (p := fun (p : Int × Int) => decide (id p.1 < id k)) (l := l.take i); rw [List.length_take] at this; omega
    obtain ⟨r, hr⟩ : ∃ r, Tr.rkL id (l.take i) k = r := ⟨_, rfl⟩
    rw [hr] at hrk ⊢
    have HRK := hid hr
    have r0 : (0 : Int) ≤ (r : Int) := by omega
    have r1 : (r : Int) ≤ 400000 := by have := HN.out; omega
    clear hm hr
    have b0 : (0 : Int) ≤ (i : Int) := by omega
    have b1 : (i : Int) ≤ 400000 := by have := HN.out; omega
    have HBS := hid (show wr.heap.size ≤ wr.heap.size from HW.out.size)
    by_cases hlt : i < n
    · have hil : i < l.length := by rw [HLN.out]; exact hlt
      obtain ⟨⟨q, y⟩, hp⟩ : ∃ p, l[i]? = some p := ⟨_, List.getElem?_eq_getElem hil⟩
      have htk : l.take (i + 1) = l.take i ++ [(q, y)] := by
        rw [List.take_succ_eq_append_getElem hil]
        rw [List.getElem?_eq_getElem hil] at hp; injection hp with hp; rw [hp]
      obtain ⟨g, rfl, s0, s1⟩ := (HR.out.below HW.out).at_ hp
      have HT := hid htk
      have HP := hid hp
      have HLT := hid hlt
      have hlt' : (i : Int) < (n : Int) := by omega
      clear hil hp htk hlt
      by_cases hk : q < k
      · have hk2 : decide (q < k) = true := by simp; exact hk
        have HK := hid hk
        clear hk s1
        go_wp2
        go_roundg (n - (i + 1))
        case measure => rw [HM.out]; have := HLT.out; omega
        case rel => exact ⟨i + 1, rfl, HLT.out, by go_num, by rw [HT.out, rk_snoc HK.out, HRK.out]; simp, rfl⟩
      · have hk2 : decide (q < k) = false := by simp; omega
        have HK := hid (show k ≤ q by omega)
        clear hk s1
        go_wp2
        go_roundg (n - (i + 1))
        case measure => rw [HM.out]; have := HLT.out; omega
        case rel => exact ⟨i + 1, rfl, HLT.out, by go_num, by rw [HT.out, rk_snoc0 HK.out, HRK.out], rfl⟩
    · have hin : i = n := by omega
      subst hin
      have HTK := hid (show l.take i = l from List.take_of_length_le (by rw [HLN.out]; exact Nat.le_refl _))
      have hni : ¬ (i : Int) < (i : Int) := by omega
      clear hlt HR
      rw [HTK.out] at HRK
      go_wp2
      go_ret
      exact ⟨rfl, by rw [HRK.out]; rfl⟩

set_option maxRecDepth 20000 in
set_option maxHeartbeats 4000000 in
theorem rrange_any (A : Option Addr) (c : Nat) (l : List (Int × Int)) (x y : Int) (w : World) (hR : RowQ w A l) (hn : l.length ≤ 400000) :
    Calls Try.prog 24 #[.slice A l.length c, .int .i64 x, .int .i64 y] w (GivesQ w (Tr.rng x y l)) := by
  have HR := hid hR
  have HN := hid hn
  clear hR
  generalize hL : l.length = n at *
  have HLN := hid hL
  clear hL
  go_enter Try.func24, Try.ntmps24
  go_wp2
  go_loopg [7, 8] n (fun m u z wr => ∃ (i : Nat), m = n - i ∧ i ≤ n ∧ z = .int .i64 (i : Nat) ∧ OwnQ wr w.heap.size u (Tr.rng x y (l.take i)) ∧ Below w.heap.size w wr)
  case atStart => exact ⟨0, rfl, Nat.zero_le _, rfl, by simpa [Tr.rng] using OwnQ.nil w w.heap.size, g_refl⟩
  case round =>
    obtain ⟨i, hm, hi, rfl, ho, hw⟩ := hrel
    have HO := hid ho
    have HLI := hid (show (l.take i).length = i by rw [List.length_take]; have := HLN.out; omega)
    have HOL := hid (show (Tr.rng x y (l.take i)).length ≤ 2 * i by unfold Tr.rng; rw [List.length_take, List.length_drop, List.length_take]; omega)
    have HW := hid hw
    have HM := hid hm
    clear ho hw hm
    have b0 : (0 : Int) ≤ (i : Int) := by omega
    have b1 : (i : Int) ≤ 400000 := by have := HN.out; omega
    have HBS := hid (show w.heap.size ≤ wr.heap.size from HW.out.size)
    by_cases hlt : i < n
    · have hil : i < l.length := by rw [HLN.out]; exact hlt
      obtain ⟨⟨q, z⟩, hp⟩ : ∃ p, l[i]? = some p := ⟨_, List.getElem?_eq_getElem hil⟩
      have htk : l.take (i + 1) = l.take i ++ [(q, z)] := by
        rw [List.take_succ_eq_append_getElem hil]
        rw [List.getElem?_eq_getElem hil] at hp; injection hp with hp; rw [hp]
      obtain ⟨g, rfl, s0, s1⟩ := (HR.out.below HW.out).at_ hp
      have HT := hid htk
      have HP := hid hp
      have HLT := hid hlt
      have hlt' : (i : Int) < (n : Int) := by omega
      clear hil hp htk hlt
      by_cases hk : x ≤ (i : Int) ∧ (i : Int) < y
      · have HK := hid hk
        obtain ⟨hk1, hk2⟩ := hk
        go_wp2_with (at_builtin; refine wp_appQ _ _ rfl rfl w.heap.size _ (Tr.rng x y (l.take i)) w.heap.size wr (q, z) rfl rfl rfl HO.out (by have h1 := HOL.out; have h2 := HN.out; have h3 := HLT.out; omega) HBS.out (Nat.le_refl _) HW.out ?_; intro v1 w1 ho1 hw1)
        go_wp2
        go_roundg (n - (i + 1))
        case measure => rw [HM.out]; have := HLT.out; omega
        case rel => exact ⟨i + 1, rfl, HLT.out, by go_num, by rw [HT.out, Tr.rng_snoc, HLI.out, if_pos HK.out]; exact ho1, hw1⟩
      · have HK := hid hk
        have hrel2 : OwnQ wr w.heap.size u7 (Tr.rng x y (l.take (i + 1))) := by rw [HT.out, Tr.rng_snoc, HLI.out, if_neg HK.out, List.append_nil]; exact HO.out
        have HO2 := hid hrel2
        by_cases hx : x ≤ (i : Int)
        · have hy : decide ((i : Int) < y) = false := by simp; omega
          clear hk hrel2 s0 s1
          go_wp2
          go_roundg (n - (i + 1))
          case measure => rw [HM.out]; have := HLT.out; omega
          case rel => exact ⟨i + 1, rfl, HLT.out, by go_num, HO2.out, HW.out⟩
        · have hx2 : decide (x ≤ (i : Int)) = false := by simp; omega
          clear hk hrel2 s0 s1 hx
          go_wp2
          go_roundg (n - (i + 1))
          case measure => rw [HM.out]; have := HLT.out; omega
          case rel => exact ⟨i + 1, rfl, HLT.out, by go_num, HO2.out, HW.out⟩
    · have hin : i = n := by omega
      subst hin
      have HTK := hid (show l.take i = l from List.take_of_length_le (by rw [HLN.out]; exact Nat.le_refl _))
      have hni : ¬ (i : Int) < (i : Int) := by omega
      clear hlt HR
      rw [HTK.out] at HO
      go_wp2
      obtain ⟨A2, c2, rfl, hr⟩ := HO.out.row
      go_ret
      exact ⟨A2, c2, rfl, hr, HW.out⟩

set_option maxRecDepth 20000 in
set_option maxHeartbeats 4000000 in
theorem least_any : ∀ (d : Nat) (w : World), d ≤ 30 → Calls Try.prog 30 #[.int .i64 (d : Nat)] w fun e w' => e = .returned (.int .i64 (Tr.lst d : Nat)) ∧ w' = w := by
  intro d
  induction d using Nat.strongRecOn with
  | _ d ih =>
    intro w hd
    match d, ih, hd with
    | 0, _, _ =>
      show Calls _ _ #[.int .i64 0] _ _
      go_enter Try.func30, Try.ntmps30
      go_wp2_with fail
      go_ret
      exact ⟨rfl, rfl⟩
    | 1, _, _ =>
      show Calls _ _ #[.int .i64 1] _ _
      go_enter Try.func30, Try.ntmps30
      go_wp2_with fail
      go_ret
      exact ⟨rfl, rfl⟩
    | d + 2, ih, hd =>
      have h1 := hid (ih (d + 1) (by omega) w (by omega))
      have h0 := hid (ih d (by omega) w (by omega))
      have l1 : ∀ k, k ≤ 30 → Tr.lst k ≤ 3000000 := fun k hk => Nat.le_trans (Tr.lst_mono hk) (by decide)
      have a1 := l1 (d + 1) (by omega)
      have a0 := l1 d (by omega)
      have HE := hid (show Tr.lst (d + 2) = Tr.lst (d + 1) + Tr.lst d + 1 from rfl)
      obtain ⟨p, hp⟩ : ∃ p, Tr.lst (d + 1) = p := ⟨_, rfl⟩
      obtain ⟨q, hq⟩ : ∃ q, Tr.lst d = q := ⟨_, rfl⟩
      rw [hp] at a1 h1 HE
      rw [hq] at a0 h0 HE
      obtain ⟨e, he⟩ : ∃ e : Int, ((d + 2 : Nat) : Int) = e := ⟨_, rfl⟩
      rw [he]
      have e1 : e - 1 = ((d + 1 : Nat) : Int) := by omega
      have e2 : e - 2 = ((d : Nat) : Int) := by omega
      have e3 : decide (e < 2) = false := by simp; omega
      have e4 : (0 : Int) ≤ e := by omega
      have e5 : e ≤ 30 := by omega
      have a2 : (0 : Int) ≤ (p : Int) := by omega
      have a3 : (p : Int) ≤ 3000000 := by omega
      have a4 : (0 : Int) ≤ (q : Int) := by omega
      have a5 : (q : Int) ≤ 3000000 := by omega
      have a6 : (p : Int) + (q : Int) ≤ 6000000 := by omega
      have a7 : (0 : Int) ≤ (p : Int) + (q : Int) := by omega
      clear ih hd l1 a1 a0 he hp hq
      go_enter Try.func30, Try.ntmps30
      go_wp2_with fail
      refine h1.out.mono ?_
      rintro _ _ ⟨rfl, rfl⟩
      go_wp2_with fail
      refine h0.out.mono ?_
      rintro _ _ ⟨rfl, rfl⟩
      go_wp2_with fail
      go_ret
      exact ⟨by rw [HE.out]; simp, rfl⟩

end Go.Proofs.Ythkceffnfhdjhaa
