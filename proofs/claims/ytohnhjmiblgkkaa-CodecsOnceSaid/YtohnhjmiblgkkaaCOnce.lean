/-
  get for every kind; what it reads without a fault is what put writes for it.
-/
import Derived.Test.YtohnhjmiblgkkaaCGet
import Derived.Test.YtohnhjmiblgkkaaCOnc0
namespace Go.Proofs.Ytohnhjmiblgkkaa
open Go.RowKit

abbrev VT : Type := Nat × (((ByteArray × ByteArray) × ByteArray) × ((ByteArray × ByteArray) × ByteArray))
/-- the value of a kind that is read, and where the reader stands behind it -/
def vrd (L : List UInt8) (l : Int) (kd : Nat) (s : St) : VT × St :=
  if kd % 13 = 0 then (((rnum L s).1, (((⟨#[]⟩, ⟨#[]⟩), ⟨#[]⟩), ((⟨#[]⟩, ⟨#[]⟩), ⟨#[]⟩))), (rnum L s).2)
  else if kd % 13 = 1 then (((rnum L s).1, (((⟨#[]⟩, ⟨#[]⟩), ⟨#[]⟩), ((⟨#[]⟩, ⟨#[]⟩), ⟨#[]⟩))), (rnum L s).2)
  else if kd % 13 = 2 then (((upTo L 255 5 s).1, (((⟨#[]⟩, ⟨#[]⟩), ⟨#[]⟩), ((⟨#[]⟩, ⟨#[]⟩), ⟨#[]⟩))), (upTo L 255 5 s).2)
  else if kd % 13 = 3 then ((bit ((upTo L 1 5 s).1 == 1), (((⟨#[]⟩, ⟨#[]⟩), ⟨#[]⟩), ((⟨#[]⟩, ⟨#[]⟩), ⟨#[]⟩))), (upTo L 1 5 s).2)
  else if kd % 13 = 4 then ((0, ((((rtext L (lmt l) s).1, ⟨#[]⟩), ⟨#[]⟩), ((⟨#[]⟩, ⟨#[]⟩), ⟨#[]⟩))), (rtext L (lmt l) s).2)
  else if kd % 13 = 5 then ((0, (((robj L s).1, ⟨#[]⟩), ((⟨#[]⟩, ⟨#[]⟩), ⟨#[]⟩))), (robj L s).2)
  else if kd % 13 = 6 then ((0, ((rgoal L s).1, ((⟨#[]⟩, ⟨#[]⟩), ⟨#[]⟩))), (rgoal L s).2)
  else if kd % 13 = 7 then ((0, (((⟨#[]⟩, ⟨#[]⟩), ⟨#[]⟩), (rgoal L s).1)), (rgoal L s).2)
  else if kd % 13 = 8 then ((0, (rtup L s).1), (rtup L s).2)
  else if kd % 13 = 9 then ((bit (rchg L s).1.2, (rchg L s).1.1), (rchg L s).2)
  else if kd % 13 = 10 then ((bit (rchg L s).1.2, (rchg L s).1.1), (rchg L s).2)
  else if kd % 13 = 11 then (((rqry L s).1.1.1, ((rqry L s).1.1.2, ((rqry L s).1.2, ⟨#[]⟩))), (rqry L s).2)
  else (((upTo L (lmt l) 3 s).1, (((⟨#[]⟩, ⟨#[]⟩), ⟨#[]⟩), ((⟨#[]⟩, ⟨#[]⟩), ⟨#[]⟩))), (upTo L (lmt l) 3 s).2)
theorem vrd_0 (L : List UInt8) (l : Int) (kd : Nat) (s : St) (h : kd % 13 = 0) : vrd L l kd s = (((rnum L s).1, (((⟨#[]⟩, ⟨#[]⟩), ⟨#[]⟩), ((⟨#[]⟩, ⟨#[]⟩), ⟨#[]⟩))), (rnum L s).2) := by simp [vrd, h]
theorem vrd_1 (L : List UInt8) (l : Int) (kd : Nat) (s : St) (h : kd % 13 = 1) : vrd L l kd s = (((rnum L s).1, (((⟨#[]⟩, ⟨#[]⟩), ⟨#[]⟩), ((⟨#[]⟩, ⟨#[]⟩), ⟨#[]⟩))), (rnum L s).2) := by simp [vrd, h]
theorem vrd_2 (L : List UInt8) (l : Int) (kd : Nat) (s : St) (h : kd % 13 = 2) : vrd L l kd s = (((upTo L 255 5 s).1, (((⟨#[]⟩, ⟨#[]⟩), ⟨#[]⟩), ((⟨#[]⟩, ⟨#[]⟩), ⟨#[]⟩))), (upTo L 255 5 s).2) := by simp [vrd, h]
theorem vrd_3 (L : List UInt8) (l : Int) (kd : Nat) (s : St) (h : kd % 13 = 3) : vrd L l kd s = ((bit ((upTo L 1 5 s).1 == 1), (((⟨#[]⟩, ⟨#[]⟩), ⟨#[]⟩), ((⟨#[]⟩, ⟨#[]⟩), ⟨#[]⟩))), (upTo L 1 5 s).2) := by simp [vrd, h]
theorem vrd_4 (L : List UInt8) (l : Int) (kd : Nat) (s : St) (h : kd % 13 = 4) : vrd L l kd s = ((0, ((((rtext L (lmt l) s).1, ⟨#[]⟩), ⟨#[]⟩), ((⟨#[]⟩, ⟨#[]⟩), ⟨#[]⟩))), (rtext L (lmt l) s).2) := by simp [vrd, h]
theorem vrd_5 (L : List UInt8) (l : Int) (kd : Nat) (s : St) (h : kd % 13 = 5) : vrd L l kd s = ((0, (((robj L s).1, ⟨#[]⟩), ((⟨#[]⟩, ⟨#[]⟩), ⟨#[]⟩))), (robj L s).2) := by simp [vrd, h]
theorem vrd_6 (L : List UInt8) (l : Int) (kd : Nat) (s : St) (h : kd % 13 = 6) : vrd L l kd s = ((0, ((rgoal L s).1, ((⟨#[]⟩, ⟨#[]⟩), ⟨#[]⟩))), (rgoal L s).2) := by simp [vrd, h]
theorem vrd_7 (L : List UInt8) (l : Int) (kd : Nat) (s : St) (h : kd % 13 = 7) : vrd L l kd s = ((0, (((⟨#[]⟩, ⟨#[]⟩), ⟨#[]⟩), (rgoal L s).1)), (rgoal L s).2) := by simp [vrd, h]
theorem vrd_8 (L : List UInt8) (l : Int) (kd : Nat) (s : St) (h : kd % 13 = 8) : vrd L l kd s = ((0, (rtup L s).1), (rtup L s).2) := by simp [vrd, h]
theorem vrd_9 (L : List UInt8) (l : Int) (kd : Nat) (s : St) (h : kd % 13 = 9) : vrd L l kd s = ((bit (rchg L s).1.2, (rchg L s).1.1), (rchg L s).2) := by simp [vrd, h]
theorem vrd_10 (L : List UInt8) (l : Int) (kd : Nat) (s : St) (h : kd % 13 = 10) : vrd L l kd s = ((bit (rchg L s).1.2, (rchg L s).1.1), (rchg L s).2) := by simp [vrd, h]
theorem vrd_11 (L : List UInt8) (l : Int) (kd : Nat) (s : St) (h : kd % 13 = 11) : vrd L l kd s = (((rqry L s).1.1.1, ((rqry L s).1.1.2, ((rqry L s).1.2, ⟨#[]⟩))), (rqry L s).2) := by simp [vrd, h]
theorem vrd_12 (L : List UInt8) (l : Int) (kd : Nat) (s : St) (h : kd % 13 = 12) : vrd L l kd s = (((upTo L (lmt l) 3 s).1, (((⟨#[]⟩, ⟨#[]⟩), ⟨#[]⟩), ((⟨#[]⟩, ⟨#[]⟩), ⟨#[]⟩))), (upTo L (lmt l) 3 s).2) := by simp [vrd, h]
theorem get_any (r : Nat) (A : Option Addr) (L : List UInt8) (s : St) (kd : Nat) (l : Int) (hl : -9223372036854775808 ≤ l ∧ l ≤ 9223372036854775807) (w : World) (h : RS w r A L s) :
    Calls Try.prog 15 #[.pointer (some ⟨r, 0, none⟩), .int .u8 (kd : Int), .int .i64 l] w (RPost w r A L (vV (vrd L l kd s).1) (vrd L l kd s).2) := by
  rcases (show kd % 13 = 0 ∨ kd % 13 = 1 ∨ kd % 13 = 2 ∨ kd % 13 = 3 ∨ kd % 13 = 4 ∨ kd % 13 = 5 ∨ kd % 13 = 6 ∨ kd % 13 = 7 ∨ kd % 13 = 8 ∨ kd % 13 = 9 ∨ kd % 13 = 10 ∨ kd % 13 = 11 ∨ kd % 13 = 12 by omega) with hk | hk | hk | hk | hk | hk | hk | hk | hk | hk | hk | hk | hk
  · rw [vrd_0 L l kd s hk]; exact get_0 r A L s kd hk l hl w h
  · rw [vrd_1 L l kd s hk]; exact get_1 r A L s kd hk l hl w h
  · rw [vrd_2 L l kd s hk]; exact get_2 r A L s kd hk l hl w h
  · rw [vrd_3 L l kd s hk]; exact get_3 r A L s kd hk l hl w h
  · rw [vrd_4 L l kd s hk]; exact get_4 r A L s kd hk l hl w h
  · rw [vrd_5 L l kd s hk]; exact get_5 r A L s kd hk l hl w h
  · rw [vrd_6 L l kd s hk]; exact get_6 r A L s kd hk l hl w h
  · rw [vrd_7 L l kd s hk]; exact get_7 r A L s kd hk l hl w h
  · rw [vrd_8 L l kd s hk]; exact get_8 r A L s kd hk l hl w h
  · rw [vrd_9 L l kd s hk]; exact get_9 r A L s kd hk l hl w h
  · rw [vrd_10 L l kd s hk]; exact get_10 r A L s kd hk l hl w h
  · rw [vrd_11 L l kd s hk]; exact get_11 r A L s kd hk l hl w h
  · rw [vrd_12 L l kd s hk]; exact get_12 r A L s kd hk l hl w h
/-- what is known of a value that was read -/
structure Once (L : List UInt8) (kd : Nat) (s : St) (x : VT × St) : Prop where
  ok : x.2.ok L
  stay : x.2.fe ≠ 0 → x.2.at_ = s.at_
  seg : x.2.fe = 0 → Seg L s x.2 (vform (if kd % 13 = 12 then 0 else kd % 13) x.1.1 x.1.2.1.1.1 x.1.2.1.1.2 x.1.2.1.2 x.1.2.2.1.1 x.1.2.2.1.2 x.1.2.2.2)
  lt : x.1.1 < 18446744073709551616
  sz : (x.1.2.1.1.1.size ≤ L.length ∧ x.1.2.1.1.2.size ≤ L.length ∧ x.1.2.1.2.size ≤ L.length) ∧ (x.1.2.2.1.1.size ≤ L.length ∧ x.1.2.2.1.2.size ≤ L.length ∧ x.1.2.2.2.size ≤ L.length)
theorem e_le (L : List UInt8) : (⟨#[]⟩ : ByteArray).size ≤ L.length := Nat.zero_le _
theorem robj_le (L : List UInt8) (s : St) : (robj L s).1.1.size ≤ L.length ∧ (robj L s).1.2.size ≤ L.length := by
  unfold robj
  exact wrap_pr (P := fun x : ByteArray × ByteArray => x.1.size ≤ L.length ∧ x.2.size ≤ L.length) ⟨e_le L, e_le L⟩ ⟨rtext_le L 16 _, rtext_le L 16 _⟩
theorem rgoal_le (L : List UInt8) (s : St) : (rgoal L s).1.1.1.size ≤ L.length ∧ (rgoal L s).1.1.2.size ≤ L.length ∧ (rgoal L s).1.2.size ≤ L.length := by
  unfold rgoal
  exact wrap_pr (P := fun x : (ByteArray × ByteArray) × ByteArray => x.1.1.size ≤ L.length ∧ x.1.2.size ≤ L.length ∧ x.2.size ≤ L.length) ⟨e_le L, e_le L, e_le L⟩ ⟨(robj_le L _).1, (robj_le L _).2, rtext_le L 16 _⟩
theorem rtup_le (L : List UInt8) (s : St) : ((rtup L s).1.1.1.1.size ≤ L.length ∧ (rtup L s).1.1.1.2.size ≤ L.length ∧ (rtup L s).1.1.2.size ≤ L.length) ∧ ((rtup L s).1.2.1.1.size ≤ L.length ∧ (rtup L s).1.2.1.2.size ≤ L.length ∧ (rtup L s).1.2.2.size ≤ L.length) := by
  unfold rtup
  exact wrap_pr (P := fun x : ((ByteArray × ByteArray) × ByteArray) × ((ByteArray × ByteArray) × ByteArray) => (x.1.1.1.size ≤ L.length ∧ x.1.1.2.size ≤ L.length ∧ x.1.2.size ≤ L.length) ∧ (x.2.1.1.size ≤ L.length ∧ x.2.1.2.size ≤ L.length ∧ x.2.2.size ≤ L.length)) ⟨⟨e_le L, e_le L, e_le L⟩, ⟨e_le L, e_le L, e_le L⟩⟩ ⟨rgoal_le L _, rgoal_le L _⟩
theorem rchg_le (L : List UInt8) (s : St) : ((rchg L s).1.1.1.1.1.size ≤ L.length ∧ (rchg L s).1.1.1.1.2.size ≤ L.length ∧ (rchg L s).1.1.1.2.size ≤ L.length) ∧ ((rchg L s).1.1.2.1.1.size ≤ L.length ∧ (rchg L s).1.1.2.1.2.size ≤ L.length ∧ (rchg L s).1.1.2.2.size ≤ L.length) := by
  unfold rchg
  exact wrap_pr (P := fun x : (((ByteArray × ByteArray) × ByteArray) × ((ByteArray × ByteArray) × ByteArray)) × Bool => (x.1.1.1.1.size ≤ L.length ∧ x.1.1.1.2.size ≤ L.length ∧ x.1.1.2.size ≤ L.length) ∧ (x.1.2.1.1.size ≤ L.length ∧ x.1.2.1.2.size ≤ L.length ∧ x.1.2.2.size ≤ L.length)) ⟨⟨e_le L, e_le L, e_le L⟩, ⟨e_le L, e_le L, e_le L⟩⟩ (rtup_le L _)
theorem rqry_sz (L : List UInt8) (s : St) : ((rqry L s).1.1.2.1.1.size ≤ L.length ∧ (rqry L s).1.1.2.1.2.size ≤ L.length ∧ (rqry L s).1.1.2.2.size ≤ L.length) ∧ ((rqry L s).1.2.1.size ≤ L.length ∧ (rqry L s).1.2.2.size ≤ L.length) := by
  unfold rqry
  exact wrap_pr (P := fun x : (Nat × ((ByteArray × ByteArray) × ByteArray)) × (ByteArray × ByteArray) => (x.1.2.1.1.size ≤ L.length ∧ x.1.2.1.2.size ≤ L.length ∧ x.1.2.2.size ≤ L.length) ∧ (x.2.1.size ≤ L.length ∧ x.2.2.size ≤ L.length)) ⟨⟨e_le L, e_le L, e_le L⟩, ⟨e_le L, e_le L⟩⟩ ⟨rgoal_le L _, robj_le L _⟩
theorem rtup_ok2 {L : List UInt8} {s : St} (h : s.ok L) : (rchg L s).2.ok L := wrap_ok h fun _ => upTo_ok (by decide) (rtup_ok h)
theorem vb_bit (b : Bool) : vb (bit b) = b := by cases b <;> rfl
theorem bit_lt (b : Bool) : bit b < 18446744073709551616 := by cases b <;> decide
theorem once_any (L : List UInt8) (l : Int) (hl : l ≤ 9223372036854775807) (kd : Nat) (s : St) (ho : s.ok L) : Once L kd s (vrd L l kd s) := by
  have z3 := And.intro (e_le L) (And.intro (e_le L) (e_le L))
  rcases (show kd % 13 = 0 ∨ kd % 13 = 1 ∨ kd % 13 = 2 ∨ kd % 13 = 3 ∨ kd % 13 = 4 ∨ kd % 13 = 5 ∨ kd % 13 = 6 ∨ kd % 13 = 7 ∨ kd % 13 = 8 ∨ kd % 13 = 9 ∨ kd % 13 = 10 ∨ kd % 13 = 11 ∨ kd % 13 = 12 by omega) with hk | hk | hk | hk | hk | hk | hk | hk | hk | hk | hk | hk | hk
  · rw [vrd_0 L l kd s hk]
    refine ⟨rnum_ok ho, fun h => wrap_at h, fun h => ?_, rnum_lt L s, ⟨z3, z3⟩⟩
    rw [show (if kd % 13 = 12 then 0 else kd % 13) = 0 by rw [hk]; rfl]
    rw [vform_0 (by decide)]
    exact rnum_seg ho h
  · rw [vrd_1 L l kd s hk]
    refine ⟨rnum_ok ho, fun h => wrap_at h, fun h => ?_, rnum_lt L s, ⟨z3, z3⟩⟩
    rw [show (if kd % 13 = 12 then 0 else kd % 13) = 1 by rw [hk]; rfl]
    rw [vform_1 (by decide)]
    exact rnum_seg ho h
  · rw [vrd_2 L l kd s hk]
    refine ⟨upTo_ok (by decide) ho, fun h => wrap_at h, fun h => ?_, Nat.lt_of_le_of_lt (upTo_le L 255 5 (by decide) s) (by decide), ⟨z3, z3⟩⟩
    rw [show (if kd % 13 = 12 then 0 else kd % 13) = 2 by rw [hk]; rfl]
    rw [vform_2 (by decide)]
    show Seg L s (upTo L 255 5 s).2 (num ((upTo L 255 5 s).1 % 256))
    rw [Nat.mod_eq_of_lt (by have := upTo_le L 255 5 (by decide) s; omega)]
    exact upTo_seg (by decide) ho h
  · rw [vrd_3 L l kd s hk]
    refine ⟨upTo_ok (by decide) ho, fun h => wrap_at h, fun h => ?_, bit_lt _, ⟨z3, z3⟩⟩
    rw [show (if kd % 13 = 12 then 0 else kd % 13) = 3 by rw [hk]; rfl]
    rw [vform_3 (by decide)]
    show Seg L s (upTo L 1 5 s).2 (num (bit (vb (bit ((upTo L 1 5 s).1 == 1)))))
    rw [vb_bit]
    exact rbool_seg ho h
  · rw [vrd_4 L l kd s hk]
    refine ⟨rtext_ok ho, fun h => wrap_at h, fun h => ?_, (by decide : 0 < 18446744073709551616), ⟨⟨rtext_le L _ s, e_le L, e_le L⟩, z3⟩⟩
    rw [show (if kd % 13 = 12 then 0 else kd % 13) = 4 by rw [hk]; rfl]
    rw [vform_4 (by decide)]
    show Seg L s (rtext L (lmt l) s).2 (tforms [(rtext L (lmt l) s).1])
    rw [show tforms [(rtext L (lmt l) s).1] = tform (rtext L (lmt l) s).1 by simp [tforms]]
    exact rtext_seg ho h
  · rw [vrd_5 L l kd s hk]
    refine ⟨robj_ok ho, fun h => wrap_at h, fun h => ?_, (by decide : 0 < 18446744073709551616), ⟨⟨(robj_le L s).1, (robj_le L s).2, e_le L⟩, z3⟩⟩
    rw [show (if kd % 13 = 12 then 0 else kd % 13) = 5 by rw [hk]; rfl]
    rw [vform_5 (by decide)]
    exact robj_seg ho h
  · rw [vrd_6 L l kd s hk]
    refine ⟨rgoal_ok ho, fun h => wrap_at h, fun h => ?_, (by decide : 0 < 18446744073709551616), ⟨rgoal_le L s, z3⟩⟩
    rw [show (if kd % 13 = 12 then 0 else kd % 13) = 6 by rw [hk]; rfl]
    rw [vform_6 (by decide)]
    exact rgoal_seg ho h
  · rw [vrd_7 L l kd s hk]
    refine ⟨rgoal_ok ho, fun h => wrap_at h, fun h => ?_, (by decide : 0 < 18446744073709551616), ⟨z3, rgoal_le L s⟩⟩
    rw [show (if kd % 13 = 12 then 0 else kd % 13) = 7 by rw [hk]; rfl]
    rw [vform_7 (by decide)]
    exact rgoal_seg ho h
  · rw [vrd_8 L l kd s hk]
    refine ⟨rtup_ok ho, fun h => wrap_at h, fun h => ?_, (by decide : 0 < 18446744073709551616), rtup_le L s⟩
    rw [show (if kd % 13 = 12 then 0 else kd % 13) = 8 by rw [hk]; rfl]
    rw [vform_8 (by decide)]
    exact rtup_seg ho h
  · rw [vrd_9 L l kd s hk]
    refine ⟨rtup_ok2 ho, fun h => wrap_at h, fun h => ?_, bit_lt _, rchg_le L s⟩
    rw [show (if kd % 13 = 12 then 0 else kd % 13) = 9 by rw [hk]; rfl]
    rw [vform_9 (by decide)]
    rw [show vb (bit (rchg L s).1.2) = (rchg L s).1.2 from vb_bit _]
    exact rchg_seg ho h
  · rw [vrd_10 L l kd s hk]
    refine ⟨rtup_ok2 ho, fun h => wrap_at h, fun h => ?_, bit_lt _, rchg_le L s⟩
    rw [show (if kd % 13 = 12 then 0 else kd % 13) = 10 by rw [hk]; rfl]
    rw [vform_10 (by decide)]
    rw [show vb (bit (rchg L s).1.2) = (rchg L s).1.2 from vb_bit _]
    exact rchg_seg ho h
  · rw [vrd_11 L l kd s hk]
    refine ⟨rqry_ok ho, fun h => wrap_at h, fun h => ?_, Nat.lt_of_le_of_lt (rqry_le L s) (by decide), ⟨(rqry_sz L s).1, (rqry_sz L s).2.1, (rqry_sz L s).2.2, e_le L⟩⟩
    rw [show (if kd % 13 = 12 then 0 else kd % 13) = 11 by rw [hk]; rfl]
    rw [vform_11 (by decide)]
    rw [show (rqry L s).1.1.1 % 256 = (rqry L s).1.1.1 from Nat.mod_eq_of_lt (by have := rqry_le L s; omega)]
    exact rqry_seg ho h
  · rw [vrd_12 L l kd s hk]
    refine ⟨upTo_ok (by decide) ho, fun h => wrap_at h, fun h => ?_, Nat.lt_of_le_of_lt (upTo_le L (lmt l) 3 (by decide) s) (by unfold lmt; omega), ⟨z3, z3⟩⟩
    rw [show (if kd % 13 = 12 then 0 else kd % 13) = 0 by rw [hk]; rfl]
    rw [vform_0 (by decide)]
    exact upTo_seg (by decide) ho h
end Go.Proofs.Ytohnhjmiblgkkaa
