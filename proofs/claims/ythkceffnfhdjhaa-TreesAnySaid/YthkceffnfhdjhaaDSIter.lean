/-
  THE ITERATOR pairs (values: string): its contract, for whatever a round does that keeps the tree.
-/
import Derived.RangeFuncBound
import Derived.RangeFuncBox
import Derived.RangeFuncCalls
import Derived.RangeFuncLeaves
import Derived.Shelf.Abstract
import Derived.Shelf.RegionOpen
import Derived.WalkKit
import Derived.OwnWalkIn
import Derived.TacticsInMore
import Derived.LoopNIn
import Derived.LoopIn
import Derived.ControlIn
import Derived.Sort.LoopGhostIn
import Derived.Test.YthkceffnfhdjhaaDSWay
namespace Go.Proofs.Ythkceffnfhdjhaa.DS
open Go.RowKit Go.Shelf Go.Deep
attribute [local go_sem] Oper.semAt_some

theorem len_seqS : ∀ (st : List (Tr ByteArray)), (∀ s ∈ st, 0 < s.sz) → st.length ≤ (seqS st).length := by
  intro st h
  have key : ∀ l : List (Tr ByteArray), (∀ s ∈ l, 0 < s.sz) → l.length ≤ (l.flatMap tailS).length := by
    intro l
    induction l with
    | nil => intro _; exact Nat.le_refl _
    | cons a t ih =>
      intro h
      have h1 := ih fun s hs => h s (List.mem_cons_of_mem _ hs)
      obtain ⟨b, l, k, v, r, rfl⟩ := Tr.sz_pos (h a List.mem_cons_self)
      rw [List.flatMap_cons, List.length_append, List.length_cons, tailS, List.length_cons]
      omega
  have := key st.reverse fun s hs => h s (List.mem_reverse.1 hs)
  rwa [List.length_reverse] at this
/-- the way parted at its end -/
theorem seqS_cons {st : List (Tr ByteArray)} {p : Int × ByteArray} {t : List (Int × ByteArray)} (h0 : ∀ s ∈ st, 0 < s.sz) (h : seqS st = p :: t) : ∃ (s0 : List (Tr ByteArray)) (b : Nat) (l r : Tr ByteArray), st = s0 ++ [.node b l p.1 p.2 r] ∧ r.li ++ seqS s0 = t := by
  rcases List.eq_nil_or_concat st with rfl | ⟨s0, s, rfl⟩
  · cases h
  · rw [List.concat_eq_append] at *
    obtain ⟨b, l, k, v, r, rfl⟩ := Tr.sz_pos (h0 s (by simp))
    rw [seqS_snoc, tailS, List.cons_append] at h
    injection h with h1 h2
    subst h1
    exact ⟨s0, b, l, r, rfl, h2⟩
theorem Rw.drop {w : World} {B g cap m : Nat} {s0 : List (Tr ByteArray)} {s : Tr ByteArray} (h : Rw w B (.slice (some ⟨g, 0, none⟩) (m + 1) cap) (s0 ++ [s])) (hm : m = s0.length) : Rw w B (.slice (some ⟨g, 0, none⟩) m cap) s0 := by
  obtain ⟨⟨h1, h2⟩, h3, h4⟩ := h
  subst hm
  refine ⟨⟨by simp, ?_⟩, fun x hx => h3 x (by simp [hx]), fun x hx => h4 x (by simp [hx])⟩
  rcases h2 with ⟨h, -⟩ | ⟨g', cap', cur, e, hb, hg, hc, hm, hsz, ht⟩
  · cases h
  · injection e with e1 e2 e3
    injection e1 with e1; injection e1 with e1
    subst e1; subst e3
    refine .inr ⟨g, cap, cur, rfl, hb, hg, by omega, hm, hsz, ?_⟩
    rw [Nat.mul_one, List.length_append, List.length_singleton, List.map_append] at ht
    have := congrArg (List.take s0.length) ht
    rw [List.take_take, Nat.min_eq_left (by omega)] at this
    rw [Nat.mul_one, this, List.take_append_of_le_length (by simp), List.take_of_length_le (by simp)]
theorem Rw.bod {w w' : World} {B : Nat} {v : Value} {st : List (Tr ByteArray)} {e e2 : TypeId} (h : Rw w B v st) (k : Bod e e2 w w') (n1 : 92 ≠ e) (n2 : 92 ≠ e2) (m1 : 69 ≠ e) (m2 : 69 ≠ e2) : Rw w' B v st := by
  obtain ⟨⟨h1, h2⟩, h3, h4⟩ := h
  refine ⟨⟨h1, ?_⟩, fun x hx => (h3 x hx).bod k n1 n2, h4⟩
  rcases h2 with h | ⟨g, cap, cur, e, hb, hg, rest⟩
  · exact .inl h
  · exact .inr ⟨g, cap, cur, e, hb, k.2 g cur _ _ hg m1 m2, rest⟩

theorem Rw.drew {w : World} {B : Nat} {v : Value} {st : List (Tr ByteArray)} (h : Rw w B v st) : Rw w.drew B v st := ⟨h.1.drew, fun s hs => (h.2.1 s hs).below (g_drew g_refl), h.2.2⟩
theorem box_itr {w w' : World} {B b : Nat} {e t : TypeId} {arr : Array Value} (h : w.heap[b]? = some (.cells arr t (0, 0))) (k : Itr B e w w') (ne : t ≠ e) : w'.heap[b]? = some (.cells arr t (0, 0)) :=
  k.kept b _ h (.inr fun arr z he => by injection he with _ e2 _; exact ne e2)
theorem box_cell {w : World} {b : Nat} {t : TypeId} {arr : Array Value} (h : w.heap[b]? = some (.cells arr t (0, 0))) (i : Nat) : w.cell? ⟨b, i, none⟩ = arr[i]? := by
  simp [World.cell?, h]

set_option maxRecDepth 100000 in
set_option maxHeartbeats 4000000 in
theorem pairs1_in (l b0 b1 b2 B fn c m : Nat) (T : Tr ByteArray) (J : Nat → World → Prop) (hJ : ∀ k a b, J k a → Itr B 69 a b → J k b) (hs : T.sz ≤ 1000000) (hcm : c + m ≤ T.sz)
    (hY : ∀ k (p : Int × ByteArray) W1, k < m → T.li[c + k]? = some p → J k W1 → YieldAt Fence.wide 2 Try.prog l #[.agg #[.int .i64 p.1, (.string p.2)]] W1 fun e W' => e = .returned (.bool true) ∧ J (k + 1) W' ∧ Bod 80 77 W1 W')
    (W : World) (hB : B ≤ W.heap.size) (h0 : W.heap[b0]? = some (.cells #[.func (.func fn) #[] #[], .pointer T.ad] 71 (0, 0))) (h1 : W.heap[b1]? = some (.cells #[.int .i64 (c : Nat)] 3 (0, 0))) (h2 : W.heap[b2]? = some (.cells #[.int .i64 ((c + m : Nat) : Int)] 3 (0, 0)))
    (hT : Lies W T) (hJ0 : J 0 W) :
    CallsIn Fence.wide 3 Try.prog 64 #[.func (.yield l) #[] #[], .pointer (some ⟨b0, 0, none⟩), .pointer (some ⟨b1, 0, none⟩), .pointer (some ⟨b2, 0, none⟩)] W fun e W' => (∃ v, e = .returned v) ∧ J m W' := by
  have HJ := hid hJ
  have HS := hid hs
  have HY := hid hY
  have HB := hid hB
  have HT := hid hT
  have HJ0 := hid hJ0
  have HCM := hid hcm
  have q1 : (0 : Int) ≤ (c : Int) := by omega
  have q2 : (c : Int) ≤ 1000000 := by omega
  have q3 : (0 : Int) ≤ (m : Int) := by omega
  have q4 : (m : Int) ≤ 1000000 := by omega
  obtain ⟨d, hd⟩ : ∃ d : Int, ((c + m : Nat) : Int) = d := ⟨_, rfl⟩
  rw [hd] at h2
  have q5 : d - (c : Int) = (m : Int) := by omega
  have q6 : (0 : Int) ≤ d := by omega
  have q7 : d ≤ 2000000 := by omega
  have H1 := hid h1
  have H2 := hid h2
  have k00 : W.cell? ⟨b0, 1, none⟩ = some (.pointer T.ad) := (box_cell h0 1).trans rfl
  have k10 : W.cell? ⟨b1, 0, none⟩ = some (.int .i64 (c : Nat)) := (box_cell h1 0).trans rfl
  clear hJ hs hY hB hT hJ0 hd hcm h0 h1 h2
  refine callsIn_of_wp Try.func64 rfl trivial ?_ rfl
  simp only [Try.ntmps64, List.size_toArray, List.length_cons, List.length_nil, Nat.reduceAdd, Nat.reduceSub, Array.replicate_succ, Array.replicate_zero, List.push_toArray, List.append_toArray, List.nil_append, List.cons_append]
  gi_wp2_with (refine ⟨trivial, ?_⟩; gi_at_call 65; refine (callsIn_wide.2 (descend_any T c (.slice none 0 0) [] B _ HT.out HS.out (by omega) (by have := HS.out; simp; omega) (Rw.nil _ _) HB.out)).mono ?_; rintro _ w1 ⟨v1, st1, rfl, hr1, hq1, hl1, hi1⟩; have k11 := (box_cell (box_itr H1.out hi1 (by decide)) 0).trans rfl; have k21 := (box_cell (box_itr H2.out hi1 (by decide)) 0).trans rfl)
  have HR1 := hid hr1
  have HQ1 := hid hq1
  have HI1 := hid hi1
  clear hr1 hq1 hl1 hi1 k00 k10 k11 k21 H1 H2
  gi_loopg [5, 14] m (fun n u x wr => ∃ (k : Nat) (st : List (Tr ByteArray)), n = m - k ∧ k ≤ m ∧ x = .int .i64 (k : Nat) ∧ Rw wr B u st ∧ seqS st = T.li.drop (c + k) ∧ B ≤ wr.heap.size ∧ J k wr)
  case atStart => exact ⟨0, st1, rfl, Nat.zero_le _, rfl, HR1.out, by rw [HQ1.out, seqS_nil, List.append_nil]; rfl, by have h1 := HB.out; have h2 := HI1.out.size; omega, HJ.out _ _ _ HJ0.out HI1.out⟩
  case round =>
    obtain ⟨k, st, hn, hk, rfl, hR, hq, hb, hj⟩ := hrel
    have HJK := hid hj
    have HN := hid hn
    have HBB := hid hb
    by_cases hlt : k < m
    · have hlen : c + k < T.li.length := by rw [T.li_len]; have := HCM.out; omega
      obtain ⟨p, hp⟩ : ∃ p, T.li[c + k] = p := ⟨_, rfl⟩
      have hq2 : seqS st = p :: T.li.drop (c + (k + 1)) := by rw [hq, List.drop_eq_getElem_cons hlen, hp]; rfl
      obtain ⟨s0, b, l2, r2, rfl, hr2⟩ := seqS_cons hR.2.2 hq2
      have hlen0 : s0.length ≤ 1000000 := by
        have h1 := len_seqS _ hR.2.2
        rw [hq, List.length_drop, T.li_len, List.length_append] at h1
        have := HS.out; omega
      obtain ⟨g, cap, rfl⟩ : ∃ g cap, u5 = .slice (some ⟨g, 0, none⟩) (s0.length + 1) cap := by
        have h := hR.1; rw [List.length_append, List.length_singleton] at h; exact ownsRow_succ h
      have hcell : wr.cell? ⟨g, s0.length, none⟩ = some (.pointer (some ⟨b, 0, none⟩)) := by
        have h := hR.1; rw [List.length_append, List.length_singleton] at h
        rw [World.ownsRow.cellAt h s0.length (by omega), List.map_append, List.getElem?_append_right (by simp)]; simp; rfl
      have hnode : Lies wr (.node b l2 p.1 p.2 r2) := hR.2.1 _ (by simp)
      obtain ⟨a0, a1, a2, a3, a4, a5⟩ := hnode.six
      obtain ⟨fy, tmps, assign, body, hy, hRd⟩ := HY.out k p wr hlt (by rw [← hp]; exact List.getElem?_eq_getElem hlen) hj
      have hcap : s0.length + 1 ≤ cap := by
        rcases hR.1.2 with ⟨h, -⟩ | ⟨g', cap', cur, e, hb, hg, hc, hm, hsz, ht⟩
        · cases h
        · injection e with e1 e2 e3; subst e3; rw [List.length_append, List.length_singleton] at hc; exact hc
      have HRR := hid hR
      have HND := hid hnode
      have HR2 := hid hr2
      have HLEN := hid hlen
      have hM0 := HRR.out
      generalize hM : s0.length = M at *
      have HM := hid hM
      have m0 : (0 : Int) ≤ (M : Int) := by omega
      have m1 : (M : Int) ≤ 1000000 := by omega
      have m2 : (M : Int) < (M : Int) + 1 := by omega
      have m3 : (M : Int) ≤ (cap : Int) := by omega
      have m4 : (M : Int) ≤ (M : Int) + 1 := by omega
      have hki : (k : Int) < (m : Int) := by omega
      have HLT := hid hlt
      have HCAP := hid hcap
      clear hn hk hj hb hlt hp hq hq2 hlen0 hR hr2 hnode hlen hM0 hM hcap a4 a5 a2
      gi_wp2
      refine hRd.mono ?_
      rintro _ w3 ⟨rfl, hj3, hbd⟩
      have h3 : w3.cell? ⟨b, 3, none⟩ = some (.pointer r2.ad) := (HND.out.bod hbd (by decide) (by decide)).six.2.2.2.1
      have HD3 := hid (Lies.right (HND.out.bod hbd (by decide) (by decide)))
      have HW3 := hid (HRR.out.bod hbd (by decide) (by decide) (by decide) (by decide))
      have HJ3 := hid hj3
      have hbs : B ≤ w3.heap.size := by have h1 := HBB.out; have h2 := hbd.1; omega
      have HBS := hid hbs
      have hr0 : r2.sz ≤ 1000000 := by
        have h1 := congrArg List.length HR2.out
        rw [List.length_append, r2.li_len, List.length_drop, T.li_len] at h1
        have := HS.out; omega
      have HR0 := hid hr0
      have hst : s0.length + r2.sz ≤ 2000000 := by rw [HM.out]; have h1 : (M : Int) ≤ 1000000 := m1; omega
      have HST := hid hst
      have hdr := HW3.out.drop HM.out.symm
      have HDR := hid hdr
      have e1 : IntKind.i64.wrap ((M : Int) + 1 - 1) = (M : Int) := by rw [wrp (by omega) (by omega)]; omega
      have e2 : IntKind.i64.wrap (M : Int) = (M : Int) := wrp (by omega) (by omega)
      have hS : w3.drew.cell? ⟨b, 3, none⟩ = some (.pointer r2.ad) := h3
      have HSS := hid hS
      have hdc := descend_any r2 0 (.slice (some ⟨g, 0, none⟩) M cap) s0 B w3.drew (HD3.out.below (g_drew g_refl)) hr0 (by omega) hst hdr.drew hbs
      rw [show ((0 : Nat) : Int) = 0 from rfl] at hdc
      have HDC := hid hdc
      have HN3 : Hid (Lies w3.drew (.node b l2 p.1 p.2 r2)) := hid (Lies.below (g_drew g_refl) (HND.out.bod hbd (by decide) (by decide)))
      clear hj3 hbd hbs hr0 hst hdr HND HRR HW3 HJK HBB a0 a1 a3 hS hdc
      gi_wp2_with fail
      refine wpIn_wide.2 ?_
      have hS := HSS.out
      go_region_held3 (fun w' => w'.cell? ⟨b, 3, none⟩ = some (.pointer r2.ad)) (first | with_reducible assumption)
        (first | (go_at_call 65; (with_reducible refine Calls.mono HDC.out ?_); rintro _ w4 ⟨v4, st4, rfl, hr4, hq4, hl4, hi4⟩; have hk4 := (HN3.out.itr hi4).six.2.2.2.1))
      all_goals gi_wp2
      all_goals
        gi_roundg (m - (k + 1))
        case measure => rw [HN.out]; have := HLT.out; omega
        case rel =>
          refine ⟨k + 1, st4, rfl, HLT.out, by simp, hr4, ?_, by have h1 := hi4.size; have h2 := HBS.out; have h3 : w3.drew.heap.size = w3.heap.size := rfl; omega, HJ.out _ _ _ HJ3.out ((Itr.refl _ _ _).drew.trans hi4)⟩
          rw [hq4, List.drop_zero, HR2.out]
    · have hkm : k = m := by omega
      subst hkm
      have hni : ¬ (k : Int) < (k : Int) := by omega
      clear hn hk hb hj hlt hR hq
      gi_wp2
      go_end0
      exact ⟨⟨_, rfl⟩, HJK.out⟩
end Go.Proofs.Ythkceffnfhdjhaa.DS
