/-
  MASKS AND SHIFTS of bytes, as sums: plain facts.
-/
import Derived.Test.YtohnhjmiblgkkaaCMem
import Derived.Laws.BitsAllLaws
import Derived.Laws.Bits64b
namespace Go.Proofs.Ytohnhjmiblgkkaa
open Go.RowKit

theorem and_all : ∀ b : Fin 256, bits BinOp.and IntKind.u8 (b.val : Int) 127 = ((b.val % 128 : Nat) : Int) ∧ (b.val < 128 → bits BinOp.and IntKind.u8 (b.val : Int) 128 = 0) ∧ (¬ b.val < 128 → bits BinOp.and IntKind.u8 (b.val : Int) 128 = 128) := by decide +kernel
theorem and127 {b : Nat} (h : b < 256) : bits BinOp.and IntKind.u8 (b : Int) 127 = ((b % 128 : Nat) : Int) := (and_all ⟨b, h⟩).1
theorem and128_lo {b : Nat} (h : b < 128) : bits BinOp.and IntKind.u8 (b : Int) 128 = 0 := (and_all ⟨b, by omega⟩).2.1 h
theorem and128_hi {b : Nat} (h : b < 256) (h2 : ¬ b < 128) : ¬ bits BinOp.and IntKind.u8 (b : Int) 128 = 0 := by
  have := (and_all ⟨b, h⟩).2.2 h2
  have e : bits BinOp.and IntKind.u8 (b : Int) 128 = 128 := this
  rw [e]; decide
theorem wrap_u64 {x : Nat} (h : x < 18446744073709551616) : IntKind.u64.wrap (x : Int) = (x : Int) := by
  simp [IntKind.wrap, IntKind.signed, IntKind.bits]; omega
theorem or_mul (a b i : Nat) (h : a < 2 ^ i) : a ||| (b * 2 ^ i) = b * 2 ^ i + a := by
  rw [Nat.or_comm, ← Nat.shiftLeft_eq, Nat.shiftLeft_add_eq_or_of_lt h]
theorem pow128 (i : Nat) : 128 ^ i = 2 ^ (7 * i) := by rw [Nat.pow_mul]
theorem grp_or {n b i sh : Nat} (hs : sh = 7 * i) (hi : i ≤ 9) (hb : b < 256) (h9 : i = 9 → b = 1) (hn : n < 128 ^ i) :
    bits BinOp.or IntKind.u64 (n : Int) (IntKind.u64.wrap (IntKind.u64.wrap (bits BinOp.and IntKind.u8 (b : Int) 127) * 2 ^ min sh 64)) = ((n + 128 ^ i * (b % 128) : Nat) : Int) := by
  subst hs
  rw [pow128] at *
  have hm : min (7 * i) 64 = 7 * i := by omega
  have hx : b % 128 * 2 ^ (7 * i) < 18446744073709551616 := by
    by_cases h : i = 9
    · subst h; rw [h9 rfl]; decide
    · have : 2 ^ (7 * i) ≤ 2 ^ 56 := Nat.pow_le_pow_right (by decide) (by omega)
      have h2 : b % 128 * 2 ^ (7 * i) ≤ 127 * 2 ^ 56 := Nat.mul_le_mul (by omega) this
      omega
  have hn2 : n < 18446744073709551616 := by
    have : 2 ^ (7 * i) ≤ 2 ^ 63 := Nat.pow_le_pow_right (by decide) (by omega)
    omega
  rw [and127 hb, wrap_u64 (by omega), hm]
  rw [show ((b % 128 : Nat) : Int) * 2 ^ (7 * i) = ((b % 128 * 2 ^ (7 * i) : Nat) : Int) by rw [Int.natCast_mul, Int.natCast_pow]; rfl]
  rw [wrap_u64 hx, bits_or_u64_nat _ _ hn2 hx, or_mul _ _ _ hn]
  rw [Nat.mul_comm, Nat.add_comm]
theorem grp_or2 {n b i sh : Nat} (hs : sh = 7 * i) (hi : i ≤ 9) (hb : b < 256) (h9 : i = 9 → b = 1) (hn : n < 128 ^ i) :
    bits BinOp.or IntKind.u64 (n : Int) (IntKind.u64.wrap (IntKind.u64.wrap (bits BinOp.and IntKind.u8 (b : Int) 127) * 2 ^ sh)) = ((n + 128 ^ i * (b % 128) : Nat) : Int) := by
  have h := grp_or hs hi hb h9 hn
  rwa [show min sh 64 = sh by omega] at h
theorem grp_next {n b i : Nat} (hn : n < 128 ^ i) : n + 128 ^ i * (b % 128) < 128 ^ (i + 1) := by
  have h1 : 128 ^ i * (b % 128) ≤ 128 ^ i * 127 := Nat.mul_le_mul (Nat.le_refl _) (by omega)
  rw [Nat.pow_succ]
  omega
theorem RS.at2 {w : World} {r : Nat} {A : Option Addr} {L : List UInt8} {s : St} (h : RS w r A L s) (n : Nat) (v : Int) (hv : v = n) (hn : n ≤ L.length) : RS (w.setCell ⟨r, 1, none⟩ (.int .i64 v)) r A L ⟨n, s.fa, s.fe⟩ := by
  subst hv; exact h.at1 n hn
end Go.Proofs.Ytohnhjmiblgkkaa
