/-
  A WRITER IN MEMORY; THE CONTRACTS of its Number, Text, Int, Small, Bool, Len, Bytes.
-/
import Derived.Test.YtohnhjmiblgkkaaCCopy
import Derived.Deep.LoopGhost
namespace Go.Proofs.Ytohnhjmiblgkkaa
open Go.RowKit

/-- a writer at block r, whose bytes are L; v is the value of its field -/
structure WS (w : World) (r base : Nat) (v : Value) (L : List UInt8) : Prop where
  c0 : w.cell? ⟨r, 0, none⟩ = some v
  f : w.frozen? ⟨r, 0, none⟩ = false
  lt : r < w.heap.size
  own : w.ownsRow base 5 1 v L.length (bc L)
  far : ∀ k, v.ownBlock = some k → k ≠ r
/-- what a call on a writer leaves: it is w but for the writer, its bytes and new blocks -/
structure WC (w w' : World) (r : Nat) (v v' : Value) : Prop where
  os : w'.os = w.os
  tape : w'.tape = w.tape
  output : w'.output = w.output
  size : w.heap.size ≤ w'.heap.size
  block : ∀ k, k < w.heap.size → k ≠ r → v.ownBlock ≠ some k → w'.heap[k]? = w.heap[k]?
  new : v'.ownBlock = v.ownBlock ∨ ∀ k, v'.ownBlock = some k → w.heap.size ≤ k
theorem WC.refl (w : World) (r : Nat) (v : Value) : WC w w r v v := ⟨rfl, rfl, rfl, Nat.le_refl _, fun _ _ _ _ => rfl, .inl rfl⟩
theorem WC.trans {a b c : World} {r : Nat} {u v x : Value} (h : WC a b r u v) (k : WC b c r v x) : WC a c r u x := by
  refine ⟨k.os.trans h.os, k.tape.trans h.tape, k.output.trans h.output, Nat.le_trans h.size k.size, fun i hi hr hu => ?_, ?_⟩
  · refine (k.block i (Nat.lt_of_lt_of_le hi h.size) hr (fun e => ?_)).trans (h.block i hi hr hu)
    rcases h.new with hn | hn
    · exact hu (hn.symm.trans e)
    · have := hn i e; omega
  · rcases k.new with kn | kn
    · rcases h.new with hn | hn
      · exact .inl (kn.trans hn)
      · exact .inr fun i hi => hn i (kn.symm.trans hi)
    · exact .inr fun i hi => Nat.le_trans h.size (kn i hi)
theorem WC.below {w w' : World} {r : Nat} {v : Value} (h : Below w.heap.size w w') : WC w w' r v v := ⟨h.os, h.tape, h.output, h.size, fun k hk _ _ => h.block k hk, .inl rfl⟩
/-- below a writer and its bytes nothing has turned -/
theorem WC.toBelow {a w w' : World} {r : Nat} {v v' : Value} (h : Below a.heap.size a w) (hc : WC w w' r v v') (hr : a.heap.size ≤ r) (hv : ∀ k, v.ownBlock = some k → a.heap.size ≤ k) : Below a.heap.size a w' :=
  h.trans ⟨hc.os, hc.tape, hc.output, hc.size, fun k hk => hc.block k (Nat.lt_of_lt_of_le hk h.size) (by omega) (fun e => by have := hv k e; omega)⟩
theorem WS.below {w w' : World} {r base : Nat} {v : Value} {L : List UInt8} (h : WS w r base v L) (hb : Below w.heap.size w w') : WS w' r base v L := by
  refine ⟨(hb.cell (p := ⟨r, 0, none⟩) h.lt).trans h.c0, (hb.frozen (p := ⟨r, 0, none⟩) h.lt).trans h.f, Nat.lt_of_lt_of_le h.lt hb.size, ?_, h.far⟩
  exact h.own.kept (row := none) ⟨hb.os, hb.tape, hb.output, hb.size, fun k hk _ => hb.block k hk⟩ (by cases hv : v.ownBlock <;> simp)
/-- append, then the store -/
theorem WS.app {w w1 : World} {r base : Nat} {v v' : Value} {L M : List UInt8} (h : WS w r base v L) (ho : w1.ownsRow base 5 1 v' (L.length + M.length) (bc L ++ bc M)) (hg : w.grownBy w1 v.ownBlock)
    (hn : v'.ownBlock = v.ownBlock ∨ v'.ownBlock = some w.heap.size) : WS (w1.setCell ⟨r, 0, none⟩ v') r base v' (L ++ M) ∧ WC w (w1.setCell ⟨r, 0, none⟩ v') r v v' := by
  have hne : v.ownBlock ≠ some r := fun e => h.far r e rfl
  have c1 : w1.cell? ⟨r, 0, none⟩ = some v := hg.cell h.c0 (fun e => hne e.symm)
  have f1 : w1.frozen? ⟨r, 0, none⟩ = false := (hg.frozen_far ⟨r, 0, none⟩ h.lt (fun e => hne e.symm)).trans h.f
  have hfar : ∀ k, v'.ownBlock = some k → k ≠ r := fun k hk => by
    rcases hn with hn | hn
    · exact h.far k (hn.symm.trans hk)
    · have e : w.heap.size = k := by rw [hn] at hk; injection hk
      have := h.lt; omega
  refine ⟨⟨World.cell?_setCell_same _ _ _ c1, by rw [World.frozen?_setCell]; exact f1, by have := h.lt; have := hg.size; simp [World.setCell]; omega, ?_, hfar⟩, ?_⟩
  · rw [List.length_append, show bc (L ++ M) = bc L ++ bc M by simp [bc]]
    refine ho.kept (row := some r) (gb_set _ _ _ _) ?_
    cases hv : v'.ownBlock with
    | none => exact .inl rfl
    | some k => exact .inr (fun e => by injection e with e; exact hfar k hv e)
  · refine ⟨hg.os, hg.tape, hg.output, by simpa [World.setCell] using hg.size, fun k hk hr hv => ?_, ?_⟩
    · rw [Below.heap_setCell _ _ _ _ hr]; exact hg.block k hk (fun e => hv e.symm)
    · rcases hn with hn | hn
      · exact .inl hn
      · exact .inr fun k hk => by rw [hn] at hk; injection hk with e; omega
/-- what a method of a writer leaves, that writes M -/
def WPost (w : World) (r base : Nat) (v : Value) (L M : List UInt8) (e : Ending) (w' : World) : Prop :=
  e = .returned (.tuple #[]) ∧ ∃ v', WS w' r base v' (L ++ M) ∧ WC w w' r v v'
theorem numF_last (k : Nat) {x : Nat} (h : x < 128) : numF k x = [UInt8.ofNat x] := by
  cases k with
  | zero => rfl
  | succ k => rw [numF, if_pos h]
theorem numF_more (k : Nat) {x : Nat} (h : ¬ x < 128) : numF (k + 1) x = UInt8.ofNat (x % 128 + 128) :: numF k (x / 128) := by rw [numF, if_neg h]
theorem byte_more {x : Nat} (h : x < 18446744073709551616) : bits BinOp.or IntKind.u64 (bits BinOp.and IntKind.u64 (x : Int) 127) 128 % 256 = ((UInt8.ofNat (x % 128 + 128)).toNat : Int) := by
  have e1 : bits BinOp.and IntKind.u64 (x : Int) 127 = ((x % 128 : Nat) : Int) := by
    have := bits_and_u64_nat x 127 h (by decide)
    rw [show ((127 : Int)) = ((127 : Nat) : Int) from rfl, this, Nat.and_two_pow_sub_one_eq_mod x 7]
  have e2 : bits BinOp.or IntKind.u64 ((x % 128 : Nat) : Int) 128 = ((x % 128 + 128 : Nat) : Int) := by
    have := bits_or_u64_nat (x % 128) 128 (by omega) (by decide)
    rw [show ((128 : Int)) = ((128 : Nat) : Int) from rfl, this]
    have := or_mul (x % 128) 1 7 (by omega)
    rw [show 1 * 2 ^ 7 = 128 from rfl] at this
    rw [this, Nat.add_comm]
  rw [e1, e2]
  simp
theorem new_byte (w : World) (x : Int) : ∀ j u, ([Value.int .u8 x])[j]? = some u → (w.alloc (.cells #[Value.int .u8 x] 5)).cell? ((⟨w.heap.size, 0, none⟩ : Addr).add j) = some u := fun j u hu => by
  match j, hu with
  | 0, hu => simp at hu; subst hu; simp [Addr.add]
theorem one_byte (x : Int) : ∀ u ∈ [Value.int .u8 x], u.oneCell' = true := fun u hu => by simp at hu; subst hu; rfl
theorem WS.step {w w1 : World} {r base : Nat} {v v' : Value} {L : List UInt8} {x : Int} {b : UInt8} (h : WS w r base v L) (hx : x = (b.toNat : Int)) (ho : w1.ownsRow base 5 1 v' (L.length + 1) (bc L ++ [Value.int .u8 x]) ∧ (w.alloc (.cells #[Value.int .u8 x] 5)).grownBy w1 v.ownBlock ∧
    (v'.ownBlock = v.ownBlock ∨ v'.ownBlock = some (w.alloc (.cells #[Value.int .u8 x] 5)).heap.size)) : WS (w1.setCell ⟨r, 0, none⟩ v') r base v' (L ++ [b]) ∧ WC w (w1.setCell ⟨r, 0, none⟩ v') r v v' := by
  subst hx
  have := WS.app (M := [b]) (h.below (g_alloc g_refl (.cells #[Value.int .u8 (b.toNat : Int)] 5))) ho.1 ho.2.1 ho.2.2
  exact ⟨this.1, (WC.below (g_alloc g_refl _)).trans this.2⟩
set_option maxRecDepth 20000 in
set_option maxHeartbeats 1000000 in
theorem wnumber_any (r base : Nat) (v : Value) (L : List UInt8) (n : Nat) (hn : n < 18446744073709551616) (w : World) (h : WS w r base v L) (hl : L.length ≤ 1000000) (hb : base ≤ w.heap.size) :
    Calls Try.prog 25 #[.pointer (some ⟨r, 0, none⟩), .int .u64 n] w (WPost w r base v L (num n)) := by
  obtain ⟨i0, hi, hz0, hz1, hz2⟩ := info_parts infoU8
  have H := hid h
  have HL := hid (And.intro hl hb)
  have HN := hid hn
  clear h hl hb hn
  go_enter Try.func25, Try.ntmps25
  go_wp2
  go_loopg [1] 10 (fun k y wr => ∃ (i x : Nat) (P : List UInt8) (u : Value), k = 10 - i ∧ i ≤ 9 ∧ y = .int .u64 x ∧ x * 128 ^ i ≤ n ∧ num n = P ++ numF (9 - i) x ∧ P.length = i ∧ WS wr r base u (L ++ P) ∧ WC w wr r v u)
  case atStart => exact ⟨0, n, [], v, rfl, by omega, rfl, by omega, rfl, rfl, by rw [List.append_nil]; exact H.out, WC.refl _ _ _⟩
  case round =>
    obtain ⟨i, x, P, u, hk, hi9, rfl, hx, hnum, hP, hws, hwc⟩ := hrel
    have HS := hid hws
    have HC := hid hwc
    have HE := hid (And.intro hx (And.intro hnum hP))
    have HI := hid (And.intro hk hi9)
    have c0 := hws.c0
    have f0 := hws.f
    have hlt := hws.lt
    clear hws hwc hx hnum hP hk hi9
    by_cases hx : x < 128
    · have hx2 : ¬ (127 : Int) < (x : Int) := by omega
      have hx3 : (x : Int) < 128 := by omega
      have HX := hid hx
      clear hx
      go_wp2_with (at_builtin; refine wpList_append_own_at _ (by rfl) _ _ _ (by rfl) base _ i0 (.int .u8 0) 1 1 Try.underlying25 hi hz0 hz1 hz2 rfl (by decide) u (L ++ P).length (bc (L ++ P)) (by rfl) (HS.out.below (g_alloc g_refl _)).own ⟨wr.heap.size, 0, none⟩ 1 1 [.int .u8 x] (by rfl) (by rfl) (new_byte _ _) (one_byte _) (by have := HL.out.1; have := HE.out.2.2; have := HI.out.2; rw [List.length_append]; unfold maxLen; omega) (by have := HL.out.1; have := HE.out.2.2; have := HI.out.2; rw [List.length_append]; omega) (by have := HL.out.2; have := HC.out.size; simp; omega) ?_; intro v2 w1 hown1 hgrow1 hz1' hat1; obtain ⟨g, cap, rfl, hbg, hcap⟩ := own_shape hown1 (fun e => by have := (hz1'.1 e).2; cases this); have HA := hid (And.intro hown1 (And.intro hgrow1 hat1)); have k0 := hgrow1.cell ((World.cell?_alloc_lt wr _ _ hlt).trans c0) (fun e => HS.out.far r e.symm rfl); have k1 := (hgrow1.frozen_far ⟨r, 0, none⟩ (by simp; omega) (fun e => HS.out.far r e.symm rfl)).trans ((HS.out.below (g_alloc g_refl (.cells #[.int .u8 x] 5))).f); clear hown1 hgrow1 hz1' hat1)
      have hq := HS.out.step (x := (x : Int)) (b := UInt8.ofNat x) (by have := HX.out; simp; omega) (by simpa using HA.out)
      go_wp2
      go_end0
      refine ⟨rfl, _, ?_, HC.out.trans hq.2⟩
      have := hq.1
      rwa [List.append_assoc, ← numF_last (9 - i) HX.out, ← HE.out.2.1] at this
    · have hx2 : (127 : Int) < (x : Int) := by omega
      have HX := hid hx
      have hi8 : i < 9 := Classical.byContradiction fun h9 => by
        have e : i = 9 := by have := HI.out.2; omega
        have h1 := HE.out.1
        have h2 := HN.out
        subst e
        have : (128 : Nat) ^ 9 = 9223372036854775808 := by decide
        rw [this] at h1
        omega
      have HJ := hid hi8
      have HB := hid (byte_more (x := x) (by have := HE.out.1; have := HN.out; have : 1 ≤ 128 ^ i := Nat.one_le_pow _ _ (by decide); have := Nat.le_mul_of_pos_right x this; omega))
      clear hx hi8
      go_wp2_with (at_builtin; refine wpList_append_own_at _ (by rfl) _ _ _ (by rfl) base _ i0 (.int .u8 0) 1 1 Try.underlying25 hi hz0 hz1 hz2 rfl (by decide) u (L ++ P).length (bc (L ++ P)) (by rfl) (HS.out.below (g_alloc g_refl _)).own ⟨wr.heap.size, 0, none⟩ 1 1 [.int .u8 (bits BinOp.or IntKind.u64 (bits BinOp.and IntKind.u64 (x : Int) 127) 128 % 256)] (by rfl) (by rfl) (new_byte _ _) (one_byte _) (by have := HL.out.1; have := HE.out.2.2; have := HI.out.2; rw [List.length_append]; unfold maxLen; omega) (by have := HL.out.1; have := HE.out.2.2; have := HI.out.2; rw [List.length_append]; omega) (by have := HL.out.2; have := HC.out.size; simp; omega) ?_; intro v2 w1 hown1 hgrow1 hz1' hat1; obtain ⟨g, cap, rfl, hbg, hcap⟩ := own_shape hown1 (fun e => by have := (hz1'.1 e).2; cases this); have HA := hid (And.intro hown1 (And.intro hgrow1 hat1)); have k0 := hgrow1.cell ((World.cell?_alloc_lt wr _ _ hlt).trans c0) (fun e => HS.out.far r e.symm rfl); have k1 := (hgrow1.frozen_far ⟨r, 0, none⟩ (by simp; omega) (fun e => HS.out.far r e.symm rfl)).trans ((HS.out.below (g_alloc g_refl (.cells #[.int .u8 (bits BinOp.or IntKind.u64 (bits BinOp.and IntKind.u64 (x : Int) 127) 128 % 256)] 5))).f); clear hown1 hgrow1 hz1' hat1)
      have hq := HS.out.step (x := bits BinOp.or IntKind.u64 (bits BinOp.and IntKind.u64 (x : Int) 127) 128 % 256) (b := UInt8.ofNat (x % 128 + 128)) HB.out (by simpa using HA.out)
      go_wp2
      go_roundg (10 - (i + 1))
      case measure => have := HI.out; omega
      case rel =>
        refine ⟨i + 1, x / 128, P ++ [UInt8.ofNat (x % 128 + 128)], _, rfl, by have := HJ.out; omega, rfl, ?_, ?_, by rw [List.length_append, HE.out.2.2]; rfl, ?_, HC.out.trans hq.2⟩
        · have h1 := HE.out.1
          have h2 : x / 128 * 128 ≤ x := Nat.div_mul_le_self x 128
          calc x / 128 * 128 ^ (i + 1) = x / 128 * 128 * 128 ^ i := by rw [Nat.pow_succ, Nat.mul_assoc, Nat.mul_comm (128 ^ i) 128]
            _ ≤ x * 128 ^ i := Nat.mul_le_mul_right _ h2
            _ ≤ n := h1
        · rw [HE.out.2.1, show 9 - i = (9 - (i + 1)) + 1 by have := HJ.out; omega, numF_more _ HX.out, List.append_assoc]
          rfl
        · rw [← List.append_assoc]
          simpa using hq.1

theorem WPost.mk2 {w w' w2 : World} {r base : Nat} {v v' : Value} {L M : List UInt8} (h : Below w.heap.size w w') (hs : WS w2 r base v' (L ++ M)) (hc : WC w' w2 r v v') : ∃ v', WS w2 r base v' (L ++ M) ∧ WC w w2 r v v' :=
  ⟨v', hs, (WC.below h).trans hc⟩
theorem wint_any (r base : Nat) (v : Value) (L : List UInt8) (n : Int) (m : Nat) (hm : IntKind.u64.wrap n = m) (hm2 : m < 18446744073709551616) (w : World) (h : WS w r base v L) (hl : L.length ≤ 1000000) (hb : base ≤ w.heap.size) :
    Calls Try.prog 28 #[.pointer (some ⟨r, 0, none⟩), .int .i64 n] w (WPost w r base v L (num m)) := by
  have H := hid (And.intro h (And.intro hl hb))
  clear h hl hb
  go_enter Try.func28, Try.ntmps28
  go_wp2_with fail
  try rw [hm]
  refine (wnumber_any r base v L m hm2 w H.out.1 H.out.2.1 H.out.2.2).mono ?_
  rintro e w1 ⟨rfl, h1⟩
  have H1 := hid h1
  clear h1
  go_wp2
  go_end0
  exact ⟨rfl, H1.out⟩
theorem wsmall_any (r base : Nat) (v : Value) (L : List UInt8) (m : Nat) (hm2 : m < 256) (w : World) (h : WS w r base v L) (hl : L.length ≤ 1000000) (hb : base ≤ w.heap.size) :
    Calls Try.prog 32 #[.pointer (some ⟨r, 0, none⟩), .int .u8 m] w (WPost w r base v L (num m)) := by
  have H := hid (And.intro h (And.intro hl hb))
  clear h hl hb
  have hm3 : (m : Int) < 256 := by omega
  go_enter Try.func32, Try.ntmps32
  go_wp2_with fail
  refine (wnumber_any r base v L m (by omega) w H.out.1 H.out.2.1 H.out.2.2).mono ?_
  rintro e w1 ⟨rfl, h1⟩
  have H1 := hid h1
  clear h1
  go_wp2
  go_end0
  exact ⟨rfl, H1.out⟩
def bit (b : Bool) : Nat := if b then 1 else 0
theorem wbool_any (r base : Nat) (v : Value) (L : List UInt8) (b : Bool) (w : World) (h : WS w r base v L) (hl : L.length ≤ 1000000) (hb : base ≤ w.heap.size) :
    Calls Try.prog 29 #[.pointer (some ⟨r, 0, none⟩), .bool b] w (WPost w r base v L (num (bit b))) := by
  have H := hid (And.intro h (And.intro hl hb))
  clear h hl hb
  cases b with
  | true =>
    go_enter Try.func29, Try.ntmps29
    go_wp2_with fail
    refine (wnumber_any r base v L 1 (by decide) w H.out.1 H.out.2.1 H.out.2.2).mono ?_
    rintro e w1 ⟨rfl, h1⟩
    have H1 := hid h1
    clear h1
    go_wp2
    go_end0
    exact ⟨rfl, H1.out⟩
  | false =>
    go_enter Try.func29, Try.ntmps29
    go_wp2_with fail
    refine (wnumber_any r base v L 0 (by decide) w H.out.1 H.out.2.1 H.out.2.2).mono ?_
    rintro e w1 ⟨rfl, h1⟩
    have H1 := hid h1
    clear h1
    go_wp2
    go_end0
    exact ⟨rfl, H1.out⟩
theorem wlen_any (r base : Nat) (v : Value) (L : List UInt8) (w : World) (h : WS w r base v L) :
    Calls Try.prog 13 #[.pointer (some ⟨r, 0, none⟩)] w fun e w' => e = .returned (.int .i64 (L.length : Int)) ∧ w' = w := by
  have c0 := h.c0
  obtain ⟨A, c, rfl⟩ : ∃ A c, v = .slice A L.length c := by
    rcases h.own.2 with ⟨rfl, hn⟩ | ⟨g, cap, cur, rfl, _⟩
    · exact ⟨none, 0, by rw [hn]⟩
    · exact ⟨_, _, rfl⟩
  clear h
  go_enter Try.func13, Try.ntmps13
  go_wp2
  go_ret
  exact ⟨rfl, rfl⟩
theorem wbytes_any (r base : Nat) (v : Value) (L : List UInt8) (w : World) (h : WS w r base v L) (hl : L.length ≤ 1000000) :
    Calls Try.prog 12 #[.pointer (some ⟨r, 0, none⟩)] w fun e w' => ∃ B, e = .returned (.slice B L.length L.length) ∧ Byt w' B L ∧ (∀ a, B = some a → w.heap.size ≤ a.block) ∧ Below w.heap.size w w' := by
  have c0 := h.c0
  obtain ⟨A, c, rfl, hA, hc, hn⟩ : ∃ A c, v = .slice A L.length c ∧ ByO w A L ∧ L.length ≤ c ∧ (A = none → c = 0) := by
    have ho := h.own
    rcases h.own.2 with ⟨rfl, hn⟩ | ⟨g, cap, cur, rfl, _, _, hcap, _⟩
    · refine ⟨none, 0, by rw [hn], ?_, by omega, fun _ => rfl⟩
      rw [List.eq_nil_of_length_eq_zero hn]; exact (Byt.nil _ _).toO
    · exact ⟨_, _, rfl, (own_byt ho).toO, hcap, fun h => by cases h⟩
  have HA := hid (And.intro hA (And.intro hc (And.intro hn hl)))
  clear h hA hc hn hl
  go_enter Try.func12, Try.ntmps12
  go_wp2_with fail
  refine (copied_any A c L w HA.out.1 HA.out.2.1 HA.out.2.2.1 HA.out.2.2.2).mono ?_
  rintro e w1 ⟨B, rfl, h1⟩
  have H1 := hid h1
  clear h1
  go_wp2
  go_ret
  exact ⟨B, rfl, H1.out⟩
end Go.Proofs.Ytohnhjmiblgkkaa
