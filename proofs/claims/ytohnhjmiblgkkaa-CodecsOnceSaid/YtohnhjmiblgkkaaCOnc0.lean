/-
  WHAT IS READ WITHOUT A FAULT is what is written for it: plain facts, the facts on segments.
-/
import Derived.Test.YtohnhjmiblgkkaaCPut
import Derived.Test.YtohnhjmiblgkkaaCMst
import Derived.Test.YtohnhjmiblgkkaaCQry
namespace Go.Proofs.Ytohnhjmiblgkkaa
open Go.RowKit

theorem rd_pos : ∀ (l : List UInt8) (i : Nat), 0 < i → ∀ v k, rd i l = .ok v k → 0 < v
  | [], i, _ => fun v k h => by simp [rd] at h
  | b :: t, i, hi => fun v k => by
    rw [rd]
    by_cases h1 : (0 < i ∧ b.toNat = 0) ∨ (i = 9 ∧ b.toNat ≠ 1)
    · rw [if_pos h1]; intro h; simp at h
    · rw [if_neg h1]
      have hb : b.toNat ≠ 0 := fun e => h1 (.inl ⟨hi, e⟩)
      by_cases h2 : b.toNat < 128
      · rw [if_pos h2]; intro h; simp at h; obtain ⟨rfl, rfl⟩ := h; omega
      · rw [if_neg h2]
        cases hr : rd (i + 1) t with
        | ok v' k' =>
          have := rd_pos t (i + 1) (by omega) v' k' hr
          intro h; simp at h; obtain ⟨rfl, rfl⟩ := h; omega
        | bad k e => intro h; simp at h
theorem rd_back : ∀ (l : List UInt8) (i : Nat), i ≤ 9 → ∀ v k, rd i l = .ok v k → numF (9 - i) v = l.take (k - i)
  | [], i, _ => fun v k h => by simp [rd] at h
  | b :: t, i, hi => fun v k => by
    rw [rd]
    have hlt : b.toNat < 256 := b.toNat_lt
    by_cases h1 : (0 < i ∧ b.toNat = 0) ∨ (i = 9 ∧ b.toNat ≠ 1)
    · rw [if_pos h1]; intro h; simp at h
    · rw [if_neg h1]
      by_cases h2 : b.toNat < 128
      · rw [if_pos h2]; intro h; simp at h; obtain ⟨rfl, rfl⟩ := h
        rw [show i + 1 - i = 1 by omega]
        cases hm : 9 - i with
        | zero => simp [numF]
        | succ m => simp [numF, h2]
      · rw [if_neg h2]
        have h9 : i ≠ 9 := fun e => h1 (.inr ⟨e, by omega⟩)
        cases hr : rd (i + 1) t with
        | ok v' k' =>
          have hp := rd_pos t (i + 1) (by omega) v' k' hr
          have hk := (rd_len t (i + 1)).1 v' k' hr
          have ih := rd_back t (i + 1) (by omega) v' k' hr
          intro h; simp at h; obtain ⟨rfl, rfl⟩ := h
          rw [show 9 - i = (9 - (i + 1)) + 1 by omega, numF, if_neg (by omega), show (b.toNat % 128 + 128 * v') % 128 + 128 = b.toNat by omega, show (b.toNat % 128 + 128 * v') / 128 = v' by omega, ih, show k' - i = (k' - (i + 1)) + 1 by omega, List.take_succ_cons]
          simp
        | bad k e => intro h; simp at h

/-- from place to place the list holds these bytes -/
def Seg (L : List UInt8) (s t : St) (M : List UInt8) : Prop := s.at_ ≤ t.at_ ∧ t.at_ ≤ L.length ∧ (L.drop s.at_).take (t.at_ - s.at_) = M
theorem Seg.trans {L : List UInt8} {s t u : St} {M N : List UInt8} (h : Seg L s t M) (g : Seg L t u N) : Seg L s u (M ++ N) := by
  refine ⟨by have := h.1; have := g.1; omega, g.2.1, ?_⟩
  have h1 := h.1
  have g1 := g.1
  rw [show u.at_ - s.at_ = (t.at_ - s.at_) + (u.at_ - t.at_) by omega, List.take_add, h.2.2, List.drop_drop, show s.at_ + (t.at_ - s.at_) = t.at_ by omega, g.2.2]
theorem wrap_inv {α : Type} {z : α} {f : St → α × St} {s : St} (h : (wrap z f s).2.fe = 0) : s.fe = 0 ∧ (f s).2.fe = 0 ∧ wrap z f s = f s := by
  unfold wrap at h ⊢
  by_cases h1 : s.fe ≠ 0
  · rw [if_pos h1] at h; exact absurd h h1
  · rw [if_neg h1] at h ⊢
    by_cases h2 : (f s).2.fe ≠ 0
    · rw [if_pos h2] at h; exact absurd h h2
    · rw [if_neg h2]
      exact ⟨by omega, by omega, rfl⟩
theorem wrap_at {α : Type} {z : α} {f : St → α × St} {s : St} (h : (wrap z f s).2.fe ≠ 0) : (wrap z f s).2.at_ = s.at_ := by
  unfold wrap at h ⊢
  by_cases h1 : s.fe ≠ 0
  · rw [if_pos h1]
  · rw [if_neg h1] at h ⊢
    by_cases h2 : (f s).2.fe ≠ 0
    · rw [if_pos h2]
    · rw [if_neg h2] at h; exact absurd h h2
theorem grp_seg {L : List UInt8} {s : St} (ho : s.ok L) (h : (grp L s).2.fe = 0) : Seg L s (grp L s).2 (num (grp L s).1) := by
  have hk := grp_ok ho
  revert h hk
  unfold grp
  have hl := rd_len (L.drop s.at_) 0
  cases hr : rd 0 (L.drop s.at_) with
  | ok v k =>
    intro h hk
    refine ⟨Nat.le_add_right _ _, hk.1, ?_⟩
    have := rd_back _ 0 (by decide) v k hr
    show (L.drop s.at_).take (s.at_ + k - s.at_) = numF 9 v
    rw [this, Nat.add_sub_cancel_left, Nat.sub_zero]
  | bad k e =>
    intro h hk
    have := hl.2 k e hr
    have h : e = 0 := h
    omega
theorem rnum_seg {L : List UInt8} {s : St} (ho : s.ok L) (h : (rnum L s).2.fe = 0) : Seg L s (rnum L s).2 (num (rnum L s).1) := by
  obtain ⟨h0, h1, h2⟩ := wrap_inv h
  have e : rnum L s = grp L s := h2
  rw [e]
  exact grp_seg ho h1
theorem upTo_seg {L : List UInt8} {g : Nat} {e : Int} (he : e ≠ 0) {s : St} (ho : s.ok L) (h : (upTo L g e s).2.fe = 0) : Seg L s (upTo L g e s).2 (num (upTo L g e s).1) := by
  obtain ⟨h0, h1, h2⟩ := wrap_inv h
  have e2 : upTo L g e s = upT L g e s := h2
  rw [e2]
  revert h1
  unfold upT
  by_cases h3 : g < (rnum L s).1
  · rw [if_pos h3]; intro h1; exact absurd h1 he
  · rw [if_neg h3]; intro h1; exact rnum_seg ho h1
theorem rtext_seg {L : List UInt8} {g : Nat} {s : St} (ho : s.ok L) (h : (rtext L g s).2.fe = 0) : Seg L s (rtext L g s).2 (tform (rtext L g s).1) := by
  obtain ⟨h0, h1, h2⟩ := wrap_inv h
  have e2 : rtext L g s = rtx L g s := h2
  have hok := rtx_ok (g := g) ho
  rw [e2]
  revert h1 hok
  unfold rtx
  by_cases h3 : L.length - (upTo L g 3 s).2.at_ < (upTo L g 3 s).1
  · rw [if_pos h3]; intro h1; cases h1
  · rw [if_neg h3]
    intro h1 hok
    have hu := upTo_seg (g := g) (e := 3) (by decide) ho h1
    have hl := hu.2.1
    have hz : (cutB L (upTo L g 3 s).2.at_ (upTo L g 3 s).1).size = (upTo L g 3 s).1 := by
      show ((L.drop (upTo L g 3 s).2.at_).take (upTo L g 3 s).1).toArray.size = _
      rw [List.size_toArray, List.length_take, List.length_drop]
      omega
    unfold tform
    rw [hz]
    refine hu.trans (u := ⟨(upTo L g 3 s).2.at_ + (upTo L g 3 s).1, (upTo L g 3 s).2.fa, (upTo L g 3 s).2.fe⟩) ⟨Nat.le_add_right _ _, hok.1, ?_⟩
    show (L.drop (upTo L g 3 s).2.at_).take ((upTo L g 3 s).2.at_ + (upTo L g 3 s).1 - (upTo L g 3 s).2.at_) = _
    rw [Nat.add_sub_cancel_left]
    rfl
theorem wrap_pr {α : Type} {P : α → Prop} {z : α} {f : St → α × St} {s : St} (hz : P z) (hf : P (f s).1) : P (wrap z f s).1 := by
  unfold wrap
  split
  · exact hz
  · split
    · exact hz
    · exact hf
theorem rtext_le (L : List UInt8) (g : Nat) (s : St) : (rtext L g s).1.size ≤ L.length := by
  unfold rtext
  refine wrap_pr (P := fun x : ByteArray => x.size ≤ L.length) (Nat.zero_le _) ?_
  unfold rtx
  split
  · exact Nat.zero_le _
  · show ((L.drop (upTo L g 3 s).2.at_).take (upTo L g 3 s).1).toArray.size ≤ _
    rw [List.size_toArray, List.length_take, List.length_drop]
    omega
theorem tforms2 (a b : ByteArray) : tforms [a, b] = tform a ++ tform b := by simp [tforms]
theorem tforms3 (a b c : ByteArray) : tforms [a, b, c] = tforms [a, b] ++ tform c := by simp [tforms]
theorem tforms6 (a b c d e f : ByteArray) : tforms [a, b, c, d, e, f] = tforms [a, b, c] ++ tforms [d, e, f] := by simp [tforms]
theorem robj_seg {L : List UInt8} {s : St} (ho : s.ok L) (h : (robj L s).2.fe = 0) : Seg L s (robj L s).2 (tforms [(robj L s).1.1, (robj L s).1.2]) := by
  obtain ⟨h0, h1, h2⟩ := wrap_inv h
  have e : robj L s = both (rname L) (rname L) s := h2
  rw [e]
  have h1 : (rname L (rname L s).2).2.fe = 0 := h1
  have h3 : (rname L s).2.fe = 0 := (wrap_inv h1).1
  have a1 := rtext_seg ho h3
  have a2 := rtext_seg (rtext_ok ho) h1
  rw [tforms2]
  exact a1.trans a2
theorem rgoal_seg {L : List UInt8} {s : St} (ho : s.ok L) (h : (rgoal L s).2.fe = 0) : Seg L s (rgoal L s).2 (tforms [(rgoal L s).1.1.1, (rgoal L s).1.1.2, (rgoal L s).1.2]) := by
  obtain ⟨h0, h1, h2⟩ := wrap_inv h
  have e : rgoal L s = both (robj L) (rname L) s := h2
  rw [e]
  have h1 : (rname L (robj L s).2).2.fe = 0 := h1
  have h3 : (robj L s).2.fe = 0 := (wrap_inv h1).1
  have a1 := robj_seg ho h3
  have a2 := rtext_seg (robj_ok ho) h1
  rw [tforms3]
  exact a1.trans a2
theorem rtup_seg {L : List UInt8} {s : St} (ho : s.ok L) (h : (rtup L s).2.fe = 0) : Seg L s (rtup L s).2 (tforms [(rtup L s).1.1.1.1, (rtup L s).1.1.1.2, (rtup L s).1.1.2, (rtup L s).1.2.1.1, (rtup L s).1.2.1.2, (rtup L s).1.2.2]) := by
  obtain ⟨h0, h1, h2⟩ := wrap_inv h
  have e : rtup L s = both (rgoal L) (rgoal L) s := h2
  rw [e]
  have h1 : (rgoal L (rgoal L s).2).2.fe = 0 := h1
  have h3 : (rgoal L s).2.fe = 0 := (wrap_inv h1).1
  have a1 := rgoal_seg ho h3
  have a2 := rgoal_seg (rgoal_ok ho) h1
  rw [tforms6]
  exact a1.trans a2
theorem bit_le {n : Nat} (h : n ≤ 1) : bit (n == 1) = n := by
  rcases (show n = 0 ∨ n = 1 by omega) with rfl | rfl <;> rfl
theorem rbool_seg {L : List UInt8} {s : St} (ho : s.ok L) (h : (rbool L s).2.fe = 0) : Seg L s (rbool L s).2 (num (bit (rbool L s).1)) := by
  have h1 : (upTo L 1 5 s).2.fe = 0 := h
  have := upTo_seg (g := 1) (e := 5) (by decide) ho h1
  show Seg L s (upTo L 1 5 s).2 (num (bit ((upTo L 1 5 s).1 == 1)))
  rw [bit_le (upTo_le L 1 5 (by decide) s)]
  exact this
theorem rchg_seg {L : List UInt8} {s : St} (ho : s.ok L) (h : (rchg L s).2.fe = 0) : Seg L s (rchg L s).2 (tforms [(rchg L s).1.1.1.1.1, (rchg L s).1.1.1.1.2, (rchg L s).1.1.1.2, (rchg L s).1.1.2.1.1, (rchg L s).1.1.2.1.2, (rchg L s).1.1.2.2] ++ num (bit (rchg L s).1.2)) := by
  obtain ⟨h0, h1, h2⟩ := wrap_inv h
  have e : rchg L s = both (rtup L) (rbool L) s := h2
  rw [e]
  have h1 : (upTo L 1 5 (rtup L s).2).2.fe = 0 := h1
  have h3 : (rtup L s).2.fe = 0 := (wrap_inv h1).1
  exact (rtup_seg ho h3).trans (rbool_seg (rtup_ok ho) h1)
theorem rqry_seg {L : List UInt8} {s : St} (ho : s.ok L) (h : (rqry L s).2.fe = 0) : Seg L s (rqry L s).2 (num (rqry L s).1.1.1 ++ tforms [(rqry L s).1.1.2.1.1, (rqry L s).1.1.2.1.2, (rqry L s).1.1.2.2, (rqry L s).1.2.1, (rqry L s).1.2.2]) := by
  obtain ⟨h0, h1, h2⟩ := wrap_inv h
  have e : rqry L s = both (both (rsmall L) (rgoal L)) (robj L) s := h2
  rw [e]
  have h1 : (robj L (rgoal L (rsmall L s).2).2).2.fe = 0 := h1
  have h3 : (rgoal L (rsmall L s).2).2.fe = 0 := (wrap_inv h1).1
  have h4 : (upTo L 255 5 s).2.fe = 0 := (wrap_inv h3).1
  have a1 := upTo_seg (g := 255) (e := 5) (by decide) ho h4
  have a2 := rgoal_seg (upTo_ok (g := 255) (e := 5) (by decide) ho) h3
  have a3 := robj_seg (rgoal_ok (upTo_ok (g := 255) (e := 5) (by decide) ho)) h1
  have := (a1.trans a2).trans a3
  simpa [tforms, both, rsmall] using this
end Go.Proofs.Ytohnhjmiblgkkaa
