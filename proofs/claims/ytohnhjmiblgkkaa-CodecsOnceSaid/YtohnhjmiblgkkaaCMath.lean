/-
  NUMBERS AND TEXTS AS BYTES, and how they are read: plain facts, without the program.
-/
import Derived.Test.YtohnhjmiblgkkaaPlain
namespace Go.Proofs.Ytohnhjmiblgkkaa

/-- the form of a number that needs at most k + 1 bytes -/
def numF : Nat → Nat → List UInt8
  | 0, n => [UInt8.ofNat n]
  | k + 1, n => if n < 128 then [UInt8.ofNat n] else UInt8.ofNat (n % 128 + 128) :: numF k (n / 128)
/-- the form of a number below 2^64 -/
def num (n : Nat) : List UInt8 := numF 9 n
/-- the form of a text -/
def tform (s : ByteArray) : List UInt8 := num s.size ++ s.data.toList

/-- what is read: a value and its bytes, or where there is a fault, and which -/
inductive Rd where
  | ok (v k : Nat)
  | bad (k : Nat) (e : Int)
deriving DecidableEq

/-- the number whose byte i is the first one of a list -/
def rd (i : Nat) : List UInt8 → Rd
  | [] => .bad i 17
  | b :: t =>
    if (0 < i ∧ b.toNat = 0) ∨ (i = 9 ∧ b.toNat ≠ 1) then .bad i 5
    else if b.toNat < 128 then .ok b.toNat (i + 1)
    else match rd (i + 1) t with
      | .ok v k => .ok (b.toNat % 128 + 128 * v) k
      | .bad k e => .bad k e

/-- what is read behind i bytes that make n -/
def acc (i n : Nat) : Rd → Rd
  | .ok v k => .ok (n + 128 ^ i * v) k
  | .bad k e => .bad k e

theorem acc_zero (r : Rd) : acc 0 0 r = r := by cases r <;> simp [acc]
theorem rd_nil (i : Nat) : rd i [] = .bad i 17 := rfl
theorem rd_form (i : Nat) (b : UInt8) (t : List UInt8) (h : (0 < i ∧ b.toNat = 0) ∨ (i = 9 ∧ b.toNat ≠ 1)) : rd i (b :: t) = .bad i 5 := by
  rw [rd, if_pos h]
theorem rd_last (i : Nat) (b : UInt8) (t : List UInt8) (h : ¬ ((0 < i ∧ b.toNat = 0) ∨ (i = 9 ∧ b.toNat ≠ 1))) (h2 : b.toNat < 128) : rd i (b :: t) = .ok b.toNat (i + 1) := by
  rw [rd, if_neg h, if_pos h2]
theorem rd_more (i n : Nat) (b : UInt8) (t : List UInt8) (h : ¬ ((0 < i ∧ b.toNat = 0) ∨ (i = 9 ∧ b.toNat ≠ 1))) (h2 : ¬ b.toNat < 128) :
    acc i n (rd i (b :: t)) = acc (i + 1) (n + 128 ^ i * (b.toNat % 128)) (rd (i + 1) t) := by
  rw [rd, if_neg h, if_neg h2]
  cases rd (i + 1) t with
  | ok v k =>
    show Rd.ok (n + 128 ^ i * (b.toNat % 128 + 128 * v)) k = Rd.ok (n + 128 ^ i * (b.toNat % 128) + 128 ^ (i + 1) * v) k
    rw [Nat.mul_add, Nat.pow_succ, Nat.mul_assoc, Nat.add_assoc]
  | bad k e => rfl
theorem rd_len : ∀ (l : List UInt8) (i : Nat), (∀ v k, rd i l = .ok v k → i < k ∧ k ≤ i + l.length) ∧ (∀ k e, rd i l = .bad k e → i ≤ k ∧ k ≤ i + l.length ∧ (e = 5 ∨ e = 17))
  | [], i => ⟨fun v k h => by simp [rd] at h, fun k e h => by simp [rd] at h; obtain ⟨h, h2⟩ := h; exact ⟨by omega, by simp; omega, .inr h2.symm⟩⟩
  | b :: t, i => by
    have ih := rd_len t (i + 1)
    rw [rd]
    by_cases h1 : (0 < i ∧ b.toNat = 0) ∨ (i = 9 ∧ b.toNat ≠ 1)
    · rw [if_pos h1]
      exact ⟨fun v k h => by simp at h, fun k e h => by simp at h; obtain ⟨h, h2⟩ := h; exact ⟨by omega, by simp; omega, .inl h2.symm⟩⟩
    · rw [if_neg h1]
      by_cases h2 : b.toNat < 128
      · rw [if_pos h2]
        exact ⟨fun v k h => by simp at h; simp; omega, fun k e h => by simp at h⟩
      · rw [if_neg h2]
        cases hr : rd (i + 1) t with
        | ok v k =>
          have := ih.1 v k hr
          exact ⟨fun v' k' h => by simp at h; simp; omega, fun k e h => by simp at h⟩
        | bad k e =>
          have := ih.2 k e hr
          exact ⟨fun v' k' h => by simp at h, fun k' e' h => by simp at h; obtain ⟨h, h3⟩ := h; subst h; subst h3; simp; exact ⟨by omega, by omega, this.2.2⟩⟩
/-- a value that is read from byte i on is below 128^(9-i) * 2 -/
theorem rd_lt : ∀ (l : List UInt8) (i : Nat), i ≤ 9 → ∀ v k, rd i l = .ok v k → v < 128 ^ (9 - i) * 2 ∧ k ≤ 10
  | [], i, _ => fun v k h => by simp [rd] at h
  | b :: t, i, hi => fun v k => by
    rw [rd]
    by_cases h1 : (0 < i ∧ b.toNat = 0) ∨ (i = 9 ∧ b.toNat ≠ 1)
    · rw [if_pos h1]; intro h; simp at h
    · rw [if_neg h1]
      by_cases h2 : b.toNat < 128
      · rw [if_pos h2]
        intro h; simp at h; obtain ⟨rfl, rfl⟩ := h
        by_cases h9 : i = 9
        · subst h9
          have : b.toNat = 1 := Classical.byContradiction fun hb => h1 (.inr ⟨rfl, hb⟩)
          rw [this]; exact ⟨by decide, by omega⟩
        · refine ⟨?_, by omega⟩
          have : 128 ^ 1 ≤ 128 ^ (9 - i) := Nat.pow_le_pow_right (by decide) (by omega)
          omega
      · rw [if_neg h2]
        have h9 : i ≠ 9 := fun e => h1 (.inr ⟨e, by omega⟩)
        cases hr : rd (i + 1) t with
        | ok v' k' =>
          obtain ⟨h3, h4⟩ := rd_lt t (i + 1) (by omega) v' k' hr
          intro h; simp at h; obtain ⟨rfl, rfl⟩ := h
          refine ⟨?_, h4⟩
          have e : 9 - i = (9 - (i + 1)) + 1 := by omega
          rw [e, Nat.pow_succ]
          omega
        | bad k e => intro h; simp at h
theorem rd_u64 {l : List UInt8} {v k : Nat} (h : rd 0 l = .ok v k) : v < 18446744073709551616 := by
  have := (rd_lt l 0 (by decide) v k h).1
  simpa using this

variable {α β : Type}
/-- where a reader stands, and its fault (0, 0: none) -/
structure St where
  at_ : Nat
  fa : Int
  fe : Int
deriving DecidableEq

/-- a value is read; if it cannot be read, it is zero, and the place stays -/
def wrap (z : α) (f : St → α × St) (s : St) : α × St :=
  if s.fe ≠ 0 then (z, s) else if (f s).2.fe ≠ 0 then (z, ⟨s.at_, (f s).2.fa, (f s).2.fe⟩) else f s
/-- the groups of a number -/
def grp (L : List UInt8) (s : St) : Nat × St :=
  match rd 0 (L.drop s.at_) with
  | .ok v k => (v, ⟨s.at_ + k, s.fa, s.fe⟩)
  | .bad k e => (0, ⟨s.at_ + k, ((s.at_ + k : Nat) : Int), e⟩)
def rnum (L : List UInt8) : St → Nat × St := wrap 0 (grp L)
def upT (L : List UInt8) (g : Nat) (e : Int) (s : St) : Nat × St :=
  if g < (rnum L s).1 then ((rnum L s).1, ⟨(rnum L s).2.at_, (s.at_ : Int), e⟩) else rnum L s
def upTo (L : List UInt8) (g : Nat) (e : Int) : St → Nat × St := wrap 0 (upT L g e)
/-- the bytes of a list from a place on -/
def cutB (L : List UInt8) (at_ n : Nat) : ByteArray := ⟨((L.drop at_).take n).toArray⟩
def rtx (L : List UInt8) (g : Nat) (s : St) : ByteArray × St :=
  if L.length - (upTo L g 3 s).2.at_ < (upTo L g 3 s).1 then (⟨#[]⟩, ⟨(upTo L g 3 s).2.at_, (L.length : Int), 17⟩)
  else (cutB L (upTo L g 3 s).2.at_ (upTo L g 3 s).1, ⟨(upTo L g 3 s).2.at_ + (upTo L g 3 s).1, (upTo L g 3 s).2.fa, (upTo L g 3 s).2.fe⟩)
def rtext (L : List UInt8) (g : Nat) : St → ByteArray × St := wrap ⟨#[]⟩ (rtx L g)
/-- one value, and then another one -/
def both (f : St → α × St) (g : St → β × St) (s : St) : (α × β) × St := (((f s).1, (g (f s).2).1), (g (f s).2).2)
def rname (L : List UInt8) : St → ByteArray × St := rtext L 16
def robj (L : List UInt8) : St → (ByteArray × ByteArray) × St := wrap (⟨#[]⟩, ⟨#[]⟩) (both (rname L) (rname L))
def rgoal (L : List UInt8) : St → ((ByteArray × ByteArray) × ByteArray) × St := wrap ((⟨#[]⟩, ⟨#[]⟩), ⟨#[]⟩) (both (robj L) (rname L))
def rtup (L : List UInt8) : St → (((ByteArray × ByteArray) × ByteArray) × ((ByteArray × ByteArray) × ByteArray)) × St := wrap (((⟨#[]⟩, ⟨#[]⟩), ⟨#[]⟩), ((⟨#[]⟩, ⟨#[]⟩), ⟨#[]⟩)) (both (rgoal L) (rgoal L))

/-- a place that is one, and a fault that is one -/
def St.ok (s : St) (L : List UInt8) : Prop := s.at_ ≤ L.length ∧ (s.fe = 0 → s.fa = 0)
theorem wrap_ok {L : List UInt8} {z : α} {f : St → α × St} {s : St} (h : s.ok L) (hf : s.fe = 0 → (f s).2.ok L) : (wrap z f s).2.ok L := by
  unfold wrap
  by_cases h1 : s.fe ≠ 0
  · rw [if_pos h1]; exact h
  · rw [if_neg h1]
    have h0 : s.fe = 0 := by omega
    by_cases h2 : (f s).2.fe ≠ 0
    · rw [if_pos h2]; exact ⟨h.1, (hf h0).2⟩
    · rw [if_neg h2]; exact hf h0
theorem grp_ok {L : List UInt8} {s : St} (h : s.ok L) : (grp L s).2.ok L := by
  unfold grp
  have := rd_len (L.drop s.at_) 0
  rw [List.length_drop] at this
  have hs := h.1
  cases hr : rd 0 (L.drop s.at_) with
  | ok v k => have := this.1 v k hr; exact ⟨by show s.at_ + k ≤ _; omega, h.2⟩
  | bad k e => have := this.2 k e hr; exact ⟨by show s.at_ + k ≤ _; omega, fun h0 => by have h0 : e = 0 := h0; omega⟩
theorem rnum_ok {L : List UInt8} {s : St} (h : s.ok L) : (rnum L s).2.ok L := wrap_ok h fun _ => grp_ok h
theorem upT_ok {L : List UInt8} {g : Nat} {e : Int} (he : e ≠ 0) {s : St} (h : s.ok L) : (upT L g e s).2.ok L := by
  unfold upT
  by_cases h1 : g < (rnum L s).1
  · rw [if_pos h1]; exact ⟨(rnum_ok h).1, fun h0 => absurd h0 he⟩
  · rw [if_neg h1]; exact rnum_ok h
theorem upTo_ok {L : List UInt8} {g : Nat} {e : Int} (he : e ≠ 0) {s : St} (h : s.ok L) : (upTo L g e s).2.ok L := wrap_ok h fun _ => upT_ok he h
theorem rtx_ok {L : List UInt8} {g : Nat} {s : St} (h : s.ok L) : (rtx L g s).2.ok L := by
  unfold rtx
  have hu := upTo_ok (g := g) (e := 3) (by decide) h
  by_cases h1 : L.length - (upTo L g 3 s).2.at_ < (upTo L g 3 s).1
  · rw [if_pos h1]; exact ⟨hu.1, fun h0 => by cases h0⟩
  · rw [if_neg h1]; exact ⟨by have := hu.1; show (upTo L g 3 s).2.at_ + (upTo L g 3 s).1 ≤ _; omega, hu.2⟩
theorem rtext_ok {L : List UInt8} {g : Nat} {s : St} (h : s.ok L) : (rtext L g s).2.ok L := wrap_ok h fun _ => rtx_ok h
theorem robj_ok {L : List UInt8} {s : St} (h : s.ok L) : (robj L s).2.ok L := wrap_ok h fun _ => rtext_ok (rtext_ok h)
theorem rgoal_ok {L : List UInt8} {s : St} (h : s.ok L) : (rgoal L s).2.ok L := wrap_ok h fun _ => rtext_ok (robj_ok h)
theorem rtup_ok {L : List UInt8} {s : St} (h : s.ok L) : (rtup L s).2.ok L := wrap_ok h fun _ => rgoal_ok (rgoal_ok h)
theorem wrap_lt {z : Nat} {f : St → Nat × St} {s : St} {B : Nat} (hz : z < B) (hf : (f s).1 < B) : (wrap z f s).1 < B := by
  unfold wrap
  by_cases h1 : s.fe ≠ 0
  · rw [if_pos h1]; exact hz
  · rw [if_neg h1]
    by_cases h2 : (f s).2.fe ≠ 0
    · rw [if_pos h2]; exact hz
    · rw [if_neg h2]; exact hf
theorem grp_lt (L : List UInt8) (s : St) : (grp L s).1 < 18446744073709551616 := by
  unfold grp
  cases hr : rd 0 (L.drop s.at_) with
  | ok v k => exact rd_u64 hr
  | bad k e => show 0 < _; decide
theorem rnum_lt (L : List UInt8) (s : St) : (rnum L s).1 < 18446744073709551616 := wrap_lt (by decide) (grp_lt L s)
theorem upTo_le (L : List UInt8) (g : Nat) (e : Int) (he : e ≠ 0) (s : St) : (upTo L g e s).1 ≤ g := by
  unfold upTo wrap
  by_cases h1 : s.fe ≠ 0
  · rw [if_pos h1]; exact Nat.zero_le _
  · rw [if_neg h1]
    by_cases h2 : (upT L g e s).2.fe ≠ 0
    · rw [if_pos h2]; exact Nat.zero_le _
    · rw [if_neg h2]
      revert h2
      unfold upT
      by_cases h3 : g < (rnum L s).1
      · rw [if_pos h3]; intro h2; exact absurd he h2
      · rw [if_neg h3]; intro _; omega
theorem wrap_bad {z : α} {f : St → α × St} {s : St} (h : s.fe ≠ 0) : wrap z f s = (z, s) := by unfold wrap; rw [if_pos h]
theorem wrap_fail {z : α} {f : St → α × St} {s : St} (h : s.fe = 0) (h2 : (f s).2.fe ≠ 0) : wrap z f s = (z, ⟨s.at_, (f s).2.fa, (f s).2.fe⟩) := by
  unfold wrap; rw [if_neg (by omega), if_pos h2]
theorem wrap_good {z : α} {f : St → α × St} {s : St} (h : s.fe = 0) (h2 : (f s).2.fe = 0) : wrap z f s = f s := by
  unfold wrap; rw [if_neg (by omega), if_neg (by omega)]
end Go.Proofs.Ytohnhjmiblgkkaa
