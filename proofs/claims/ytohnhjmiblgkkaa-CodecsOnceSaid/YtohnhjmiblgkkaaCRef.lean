/-
  THE CONTRACTS of the reference's Number and Texts.
-/
import Derived.Test.YtohnhjmiblgkkaaCStr
namespace Go.Proofs.Ytohnhjmiblgkkaa
open Go.RowKit

/-- what a function leaves that makes a list of bytes -/
def MPost (w : World) (L : List UInt8) (e : Ending) (w' : World) : Prop :=
  ∃ v, e = .returned v ∧ w'.ownsRow w.heap.size 5 1 v L.length (bc L) ∧ Below w.heap.size w w'
theorem row1 (w : World) (x : Int) : (w.alloc (.cells #[.int .u8 x] 5)).ownsRow w.heap.size 5 1 (.slice (some ⟨w.heap.size, 0, none⟩) 1 1) 1 [.int .u8 x] :=
  ⟨rfl, .inr ⟨w.heap.size, 1, #[.int .u8 x], rfl, Nat.le_refl _, heap_alloc_new w _, Nat.le_refl _, by decide, rfl, rfl⟩⟩
theorem row_below {w w' : World} {base n : Nat} {v : Value} {xs : List Value} (h : w.ownsRow base 5 1 v n xs) (hb : Below w.heap.size w w') : w'.ownsRow base 5 1 v n xs :=
  h.kept (row := none) ⟨hb.os, hb.tape, hb.output, hb.size, fun k hk _ => hb.block k hk⟩ (by cases hv : v.ownBlock <;> simp)
theorem row_base {w : World} {base b2 n : Nat} {v : Value} {xs : List Value} (h : w.ownsRow base 5 1 v n xs) (hb : b2 ≤ base) : w.ownsRow b2 5 1 v n xs := by
  refine ⟨h.1, ?_⟩
  rcases h.2 with h | ⟨g, cap, cur, h1, h2, h3⟩
  · exact .inl h
  · exact .inr ⟨g, cap, cur, h1, Nat.le_trans hb h2, h3⟩
theorem ofNat_lt {x : Nat} (h : x < 256) : ((UInt8.ofNat x).toNat : Int) = (x : Int) := by simp; omega

theorem bc_one1 {x : Nat} (h : x < 256) : bc [UInt8.ofNat x] = [Value.int .u8 (x : Int)] := by
  show [Value.int .u8 ((UInt8.ofNat x).toNat : Int)] = _
  rw [ofNat_lt h]
set_option maxRecDepth 20000 in
set_option maxHeartbeats 1000000 in
theorem rnumber_ind : ∀ (k n : Nat), k ≤ 9 → n < 128 ^ (k + 1) → n < 18446744073709551616 → ∀ w : World, Calls Try.prog 41 #[.int .u64 n] w (MPost w (numF k n)) := by
  intro k
  induction k with
  | zero =>
    intro n hk9 hn hn2 w
    have hx : (n : Int) < 128 := by omega
    have HN := hid hn
    clear hn hn2 hk9
    go_enter Try.func41, Try.ntmps41
    go_wp2
    go_ret
    refine ⟨_, rfl, ?_, g_alloc g_refl _⟩
    show (w.alloc (.cells #[.int .u8 (n : Int)] 5)).ownsRow w.heap.size 5 1 _ 1 (bc [UInt8.ofNat n])
    rw [bc_one1 (by have := HN.out; omega)]
    exact row1 w (n : Int)
  | succ k ih =>
    intro n hk9 hn hn2 w
    by_cases hs : n < 128
    · have hx : (n : Int) < 128 := by omega
      have HN := hid hs
      have HE := hid (numF_last (k + 1) hs)
      clear hn hn2 hs ih hk9
      go_enter Try.func41, Try.ntmps41
      go_wp2
      go_ret
      rw [HE.out]
      refine ⟨_, rfl, ?_, g_alloc g_refl _⟩
      show (w.alloc (.cells #[.int .u8 (n : Int)] 5)).ownsRow w.heap.size 5 1 _ 1 (bc [UInt8.ofNat n])
      rw [bc_one1 (by have := HN.out; omega)]
      exact row1 w (n : Int)
    · have hx : ¬ (n : Int) < 128 := by omega
      have hx2 : (n : Int) < 18446744073709551616 := by omega
      have IH := hid (ih (n / 128) (by omega) (by rw [Nat.pow_succ] at hn; omega) (by omega))
      have HE := hid (numF_more k hs)
      have hL := numF_len k (n / 128)
      have HK := hid hk9
      have HL := hid hL
      clear hn hn2 hs ih hk9 hL
      obtain ⟨i0, hi, hz0, hz1, hz2⟩ := info_parts infoU8
      go_enter Try.func41, Try.ntmps41
      go_wp2_with fail
      refine Calls.mono (P := Try.prog) (f := 41) (args := #[.int .u64 ((n / 128 : Nat) : Int)]) (IH.out (w.alloc (.cells #[.int .u8 ((n : Int) % 128 + 128)] 5))) ?_
      rintro e w1 ⟨v, rfl, ho, hb⟩
      obtain ⟨g, cap, rfl, hbg, hcap⟩ := own_shape ho (fun e => by
        rcases ho.2 with ⟨_, hn⟩ | ⟨g, cap, cur, he, _⟩
        · have := HL.out.1; omega
        · rw [e] at he; cases he)
      have HO := hid (And.intro ho hb)
      have HG := hid (g_trans (g_alloc g_refl _ : Below w.heap.size w _) hb)
      clear ho hb hbg hcap
      generalize hm : (numF k (n / 128)).length = m at *
      have HM := hid hm
      clear hm
      go_wp2_with (at_builtin; refine wpList_append_own_at _ (by rfl) _ _ _ (by rfl) w.heap.size _ i0 (.int .u8 0) 1 1 Try.underlying25 hi hz0 hz1 hz2 rfl (by decide) (.slice (some ⟨w.heap.size, 0, none⟩) 1 1) 1 [.int .u8 ((n : Int) % 128 + 128)] (by rfl) (row_below (row1 w _) HO.out.2) ⟨g, 0, none⟩ m cap (bc (numF k (n / 128))) (by rfl) (by rw [bc_len, HM.out, Nat.mul_one]) (by have := HO.out.1.cells (g := g) rfl; exact this) (bc_one _) (by have := HL.out.2; have := HK.out; unfold maxLen; omega) (by have := HL.out.2; have := HK.out; omega) (by exact HG.out.size) ?_; intro v2 w2 hown2 hgrow2 hz2' hat2; obtain ⟨g2, cap2, rfl, hbg2, hcap2⟩ := own_shape hown2 (fun e => by have := (hz2'.1 e).1; cases this); have HF := hid (And.intro hown2 hgrow2); clear hown2 hgrow2 hz2' hat2 hbg2 hcap2)
      go_ret
      rw [HE.out]
      refine ⟨_, rfl, ?_, ?_⟩
      · have h1 := HF.out.1
        have e : bc (UInt8.ofNat (n % 128 + 128) :: numF k (n / 128)) = [Value.int .u8 ((n : Int) % 128 + 128)] ++ bc (numF k (n / 128)) := by
          show Value.int .u8 ((UInt8.ofNat (n % 128 + 128)).toNat : Int) :: bc (numF k (n / 128)) = _
          rw [ofNat_lt (by omega)]
          rfl
        rw [e, List.length_cons, HM.out, Nat.add_comm m 1]
        exact h1
      · exact HG.out.grown HF.out.2 HG.out.size (fun k h => by
          have : w.heap.size = k := by simpa [Value.ownBlock] using h
          omega)
theorem rnumber_any (n : Nat) (hn : n < 18446744073709551616) (w : World) : Calls Try.prog 41 #[.int .u64 n] w (MPost w (num n)) :=
  rnumber_ind 9 n (by omega) (by omega) hn w
end Go.Proofs.Ytohnhjmiblgkkaa
