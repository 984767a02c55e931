/-
  PLAIN FACTS: the 4097 tuples that differ in three digits ascend; the order of the eight texts.
-/
import Derived.Test.YtcdhejaoidjecaaTFact
import Derived.Test.YtcdhejaoidjecaaMOrd
import Derived.Test.YtcdhejaoidjecaaTRead
namespace Go.Proofs.Ytcdhejaoidjecaa
open Go.RowKit Go.Sort

/-- a digit, as a byte -/
def dig (n : Nat) : UInt8 := UInt8.ofNat (if n < 10 then 48 + n else 87 + n)
theorem dig_nat {n : Nat} (h : n < 36) : (dig n).toNat = if n < 10 then 48 + n else 87 + n := by
  unfold dig; rw [UInt8.toNat_ofNat']; split <;> omega
theorem dig_lt {m n : Nat} (h : m < n) (hn : n < 36) : dig m < dig n := by
  rw [UInt8.lt_iff_toNat_lt, dig_nat (by omega), dig_nat hn]; split <;> split <;> omega
/-- the three digits of a number -/
def id3 (i : Nat) : ByteArray := ⟨#[dig (i / 1296), dig (i / 36 % 36), dig (i % 36)]⟩
def kt (i : Nat) : Tup := ⟨⟨#[97]⟩, ⟨#[98]⟩, ⟨#[99]⟩, ⟨#[100]⟩, id3 i, ⟨#[]⟩⟩
theorem bytes_lt {a b : UInt8} {l m : List UInt8} (h : a < b) : Lib.compareBytes (a :: l) (b :: m) = -1 := by rw [Lib.compareBytes, if_pos h]
theorem bytes_eq {a : UInt8} {l m : List UInt8} : Lib.compareBytes (a :: l) (a :: m) = Lib.compareBytes l m := by
  rw [Lib.compareBytes, if_neg (by rw [UInt8.lt_iff_toNat_lt]; omega), if_neg (by rw [UInt8.lt_iff_toNat_lt]; omega)]
theorem id3_lt {i j : Nat} (h : i < j) (hj : j < 46656) : cmpS (id3 i) (id3 j) = -1 := by
  unfold cmpS id3
  show Lib.compareBytes [dig (i / 1296), dig (i / 36 % 36), dig (i % 36)] [dig (j / 1296), dig (j / 36 % 36), dig (j % 36)] = -1
  rcases Nat.lt_or_ge (i / 1296) (j / 1296) with h1 | h1
  · exact bytes_lt (dig_lt h1 (by omega))
  · have e1 : i / 1296 = j / 1296 := by omega
    rw [e1, bytes_eq]
    rcases Nat.lt_or_ge (i / 36 % 36) (j / 36 % 36) with h2 | h2
    · exact bytes_lt (dig_lt h2 (by omega))
    · have e2 : i / 36 % 36 = j / 36 % 36 := by omega
      rw [e2, bytes_eq]
      exact bytes_lt (dig_lt (by omega) (by omega))
theorem kt_lt {i j : Nat} (h : i < j) (hj : j < 46656) : cmpT (kt i) (kt j) < 0 := by
  have h1 : cmpG (kt i).a (kt i).b (kt i).c (kt j).a (kt j).b (kt j).c = 0 := by
    show cmpG ⟨#[97]⟩ ⟨#[98]⟩ ⟨#[99]⟩ ⟨#[97]⟩ ⟨#[98]⟩ ⟨#[99]⟩ = 0
    decide +kernel
  have h2 : cmpS (id3 i) (id3 j) = -1 := id3_lt h hj
  have h3 : cmpS ⟨#[100]⟩ ⟨#[100]⟩ = 0 := by decide +kernel
  have h4 : cmpG (kt i).d (kt i).e (kt i).f (kt j).d (kt j).e (kt j).f = -1 := by
    show lexS [(⟨#[100]⟩, ⟨#[100]⟩), (id3 i, id3 j), (⟨#[]⟩, ⟨#[]⟩)] = -1
    rw [lexS, if_pos h3, lexS, if_neg (by rw [h2]; decide)]; exact h2
  unfold cmpT
  rw [if_pos h1, h4]; decide
/-- the list of the first tuples -/
def ktL (n : Nat) : List Tup := (List.range n).map kt
theorem ktL_len (n : Nat) : (ktL n).length = n := by unfold ktL; simp
theorem ktL_step (n : Nat) : ktL n ++ [kt n] = ktL (n + 1) := by unfold ktL; rw [List.range_succ, List.map_append]; rfl
theorem ktL_get (n i : Nat) (h : i < (ktL n).length) : (ktL n)[i] = kt i := by simp [ktL]
theorem ktL_asc (n : Nat) (hn : n ≤ 46656) : Asc cmpT (ktL n) := by
  unfold Asc
  rw [List.pairwise_iff_getElem]
  intro i j hi hj hij
  rw [ktL_get, ktL_get]
  rw [ktL_len] at hj
  exact kt_lt hij (by omega)
theorem ktL_isB (n : Nat) (hn : n ≤ 46656) : isB cmpT (ktL n) = true := (isB_asc tot _).2 (ktL_asc n hn)
theorem ktL_take (m n : Nat) (h : m ≤ n) : (ktL n).take m = ktL m := by
  unfold ktL; rw [← List.map_take, List.take_range, Nat.min_eq_left h]
theorem ktL_mem (n i : Nat) (h : i < n) : kt i ∈ ktL n := by unfold ktL; exact List.mem_map_of_mem (List.mem_range.2 h)
/-- the place of a tuple in the list -/
theorem ktL_fnd (n i : Nat) (hn : n ≤ 46656) (h : i < n) : fnd cmpT (ktL n) (kt i) = i := by
  have hA := ktL_asc n hn
  have hi : i < (ktL n).length := by rw [ktL_len]; exact h
  have h1 : ¬ i < fnd cmpT (ktL n) (kt i) := fun hlt => by
    have := (fnd_lt tot hA (kt i) i hi).2 hlt
    rw [ktL_get] at this
    have := tot.self (kt i); omega
  have h2 : ¬ fnd cmpT (ktL n) (kt i) < i := fun hlt => by
    have h3 := (fnd_lt tot hA (kt i) (fnd cmpT (ktL n) (kt i)) (by rw [ktL_len]; omega)).1 (by rw [ktL_get]; exact kt_lt hlt (by omega))
    omega
  omega

/-- the eight texts, and their tuples -/
def tx8 : List ByteArray := [⟨#[97, 58, 98, 35, 99, 64, 100, 58, 101]⟩, ⟨#[97, 58, 98, 35, 99, 64, 100, 58, 101, 35, 102]⟩, ⟨#[97, 58, 98, 35, 99, 64, 100, 58, 101, 35, 103]⟩, ⟨#[97, 58, 98, 35, 99, 64, 100, 58, 101, 97]⟩, ⟨#[97, 58, 98, 35, 99, 64, 100, 97, 58, 97]⟩, ⟨#[97, 58, 98, 35, 99, 97, 64, 97, 58, 97]⟩, ⟨#[97, 58, 98, 97, 35, 97, 64, 97, 58, 97]⟩, ⟨#[97, 97, 58, 97, 35, 97, 64, 97, 58, 97]⟩]
def tp8 : List Tup := tx8.map fun s => (rtup s).1
theorem tx8_len : tx8.length = 8 := rfl
theorem tp8_len : tp8.length = 8 := rfl
theorem read8 : ∀ i : Fin 8, rtup (tx8[i.val]'(by have := i.isLt; rw [tx8_len]; exact this)) = (tp8[i.val]'(by have := i.isLt; rw [tp8_len]; exact this), 0) ∧ (tx8[i.val]'(by have := i.isLt; rw [tx8_len]; exact this)).size ≤ 40 := by decide +kernel
theorem cmp8 : ∀ i k : Fin 8, cmpT (tp8[i.val]'(by have := i.isLt; rw [tp8_len]; exact this)) (tp8[k.val]'(by have := k.isLt; rw [tp8_len]; exact this)) = if i.val < k.val then -1 else if k.val < i.val then 1 else 0 := by decide +kernel
theorem read0 : rtup ⟨#[97, 58, 98, 35, 99, 64, 100, 58, 101]⟩ = (⟨⟨#[97]⟩, ⟨#[98]⟩, ⟨#[99]⟩, ⟨#[100]⟩, ⟨#[101]⟩, ⟨#[]⟩⟩, 0) := by decide +kernel

end Go.Proofs.Ytcdhejaoidjecaa
