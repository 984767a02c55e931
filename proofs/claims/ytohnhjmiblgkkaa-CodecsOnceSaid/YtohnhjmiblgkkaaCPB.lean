/-
  BYTES THAT CAME IN, WRITTEN AND WRITTEN BACK: what a world has beside them is as it was.
-/
import Derived.Test.YtohnhjmiblgkkaaCLives
import Derived.Test.YtohnhjmiblgkkaaCTxs
namespace Go.Proofs.Ytohnhjmiblgkkaa
open Go.RowKit

/-- the bytes that came in with address A in W, where they were L, are M in w, and all else that W had is as it was -/
def PB (W w : World) (A : Option Addr) (L M : List UInt8) : Prop :=
  M.length = L.length ∧ ((L = [] ∧ Below W.heap.size W w) ∨
   (∃ g o cur0 cur t fr, A = some ⟨g, o, none⟩ ∧ g < W.heap.size ∧ W.heap[g]? = some (.cells cur0 t fr) ∧ w.heap[g]? = some (.cells cur t fr) ∧ cur.size = cur0.size ∧ W.grownBy w (some g) ∧
      (∀ i, i < L.length → W.frozen? ⟨g, o + i, none⟩ = false) ∧
      (∀ j, (j < o ∨ o + L.length ≤ j) → cur[j]? = cur0[j]?) ∧ (∀ i (h : i < L.length), cur0[o + i]? = some (.int .u8 L[i].toNat)) ∧ (∀ i (h : i < M.length), cur[o + i]? = some (.int .u8 M[i].toNat))))
/-- bytes that came in -/
def BIn (W : World) (A : Option Addr) (L : List UInt8) : Prop := ByO W A L ∧ (L ≠ [] → ∀ a, A = some a → ∀ i, i < L.length → W.frozen? ⟨a.block, a.off + i, none⟩ = false)
section
variable {W w w' : World} {A : Option Addr} {L M : List UInt8} {q : Nat}
theorem cells_of {w : World} {g i : Nat} {v : Value} (h : w.cell? ⟨g, i, none⟩ = some v) : ∃ cur t fr, w.heap[g]? = some (.cells cur t fr) ∧ cur[i]? = some v := by
  unfold World.cell? at h
  cases hh : w.heap[g]? with
  | none => simp [hh] at h
  | some o =>
    cases o with
    | cells cur t fr => exact ⟨cur, t, fr, rfl, by simpa [hh] using h⟩
    | _ => simp [hh] at h
theorem cell_of {w : World} {g i : Nat} {cur : Array Value} {t : TypeId} {fr : Nat × Nat} (h : w.heap[g]? = some (.cells cur t fr)) : w.cell? ⟨g, i, none⟩ = cur[i]? := by simp [World.cell?, h]
theorem PB.start (h : BIn W A L) : PB W W A L L := by
  refine ⟨rfl, ?_⟩
  by_cases hn : L = []
  · exact .inl ⟨hn, g_refl⟩
  · obtain ⟨g, o, rfl, hg, hc⟩ := h.1 hn
    have hf := h.2 hn _ rfl
    obtain ⟨cur, t, fr, hh, _⟩ := cells_of (hc 0 (List.length_pos_iff.2 hn))
    have hall : ∀ i (h : i < L.length), cur[o + i]? = some (.int .u8 L[i].toNat) := fun i hi => (cell_of hh).symm.trans (hc i hi)
    exact .inr ⟨g, o, cur, cur, t, fr, rfl, hg, hh, hh, rfl, World.grownBy.refl _ _, hf, fun _ _ => rfl, hall, hall⟩
theorem PB.size (h : PB W w A L M) : W.heap.size ≤ w.heap.size := by
  rcases h.2 with h | ⟨g, o, cur0, cur, t, fr, _, _, _, _, _, hg, _⟩
  · exact h.2.size
  · exact hg.size
/-- a call that leaves what W had -/
theorem PB.kept (h : PB W w A L M) (hos : w'.os = w.os) (ht : w'.tape = w.tape) (ho : w'.output = w.output) (hs : w.heap.size ≤ w'.heap.size) (hb : ∀ k, k < W.heap.size → w'.heap[k]? = w.heap[k]?) : PB W w' A L M := by
  refine ⟨h.1, ?_⟩
  rcases h.2 with ⟨hn, h⟩ | ⟨g, o, cur0, cur, t, fr, hA, hg, h0, h1, hsz, hgr, hf, hout, hl, hm⟩
  · exact .inl ⟨hn, hos.trans h.os, ht.trans h.tape, ho.trans h.output, Nat.le_trans h.size hs, fun k hk => (hb k hk).trans (h.block k hk)⟩
  · exact .inr ⟨g, o, cur0, cur, t, fr, hA, hg, h0, (hb g hg).trans h1, hsz, ⟨hos.trans hgr.os, ht.trans hgr.tape, ho.trans hgr.output, Nat.le_trans hgr.size hs, fun k hk hk2 => (hb k hk).trans (hgr.block k hk hk2)⟩, hf, hout, hl, hm⟩
theorem PB.below (h : PB W w A L M) (hb : Below w.heap.size w w') : PB W w' A L M :=
  h.kept hb.os hb.tape hb.output hb.size fun k hk => hb.block k (Nat.lt_of_lt_of_le hk h.size)
theorem PB.grown (h : PB W w A L M) (hg : w.grownBy w' (some q)) (hq : W.heap.size ≤ q) : PB W w' A L M :=
  h.kept hg.os hg.tape hg.output hg.size fun k hk => hg.block k (Nat.lt_of_lt_of_le hk h.size) (fun e => by injection e with e; omega)
theorem PB.writer {r : Nat} {v v' : Value} (h : PB W w A L M) (hc : WC w w' r v v') (hr : W.heap.size ≤ r) (hv : ∀ k, v.ownBlock = some k → W.heap.size ≤ k) : PB W w' A L M :=
  h.kept hc.os hc.tape hc.output hc.size fun k hk => hc.block k (Nat.lt_of_lt_of_le hk h.size) (by omega) (fun e => by have := hv k e; omega)
/-- they read as M -/
theorem PB.reads (h : PB W w A L M) : ByO w A M := fun hn => by
  rcases h.2 with ⟨hL, _⟩ | ⟨g, o, cur0, cur, t, fr, hA, hg, h0, h1, hsz, hgr, hf, hout, hl, hm⟩
  · exact absurd (List.eq_nil_of_length_eq_zero (by rw [h.1, hL]; rfl)) hn
  · exact ⟨g, o, hA, Nat.lt_of_lt_of_le hg hgr.size, fun i hi => (cell_of h1).trans (hm i hi)⟩
/-- a byte is written -/
theorem PB.set (h : PB W w A L M) (i : Nat) (hi : i < M.length) (b : UInt8) (x : Int) (hx : x = (b.toNat : Int)) : ∃ g o, A = some ⟨g, o, none⟩ ∧ g < W.heap.size ∧ w.cell? ⟨g, o + i, none⟩ = some (.int .u8 M[i].toNat) ∧ w.frozen? ⟨g, o + i, none⟩ = false ∧ PB W (w.setCell ⟨g, o + i, none⟩ (.int .u8 x)) A L (M.set i b) := by
  subst hx
  rcases h.2 with ⟨hL, _⟩ | ⟨g, o, cur0, cur, t, fr, hA, hg, h0, h1, hsz, hgr, hf, hout, hl, hm⟩
  · have := h.1; rw [hL] at this; simp at this; subst this; simp at hi
  · have hlen := h.1
    have hfr : w.frozen? ⟨g, o + i, none⟩ = false := by
      have e0 := hf i (by omega)
      simp only [World.frozen?, h0] at e0
      simp only [World.frozen?, h1]
      exact e0
    refine ⟨g, o, hA, hg, (cell_of h1).trans (hm i hi), hfr, by rw [List.length_set]; exact hlen, .inr ⟨g, o, cur0, _, t, fr, hA, hg, h0, setCell_heap w g (o + i) _ h1, by simpa using hsz, hgr.trans (gb_set _ _ _ _), hf, fun j hj => ?_, hl, fun j hj => ?_⟩⟩
    · rw [Array.getElem?_setIfInBounds_ne (by omega)]; exact hout j hj
    · rw [List.length_set] at hj
      by_cases e : i = j
      · subst e
        have : o + i < cur.size := by
          have := hm i hi
          exact (Array.getElem?_eq_some_iff.1 this).1
        rw [Array.getElem?_setIfInBounds_self_of_lt this, List.getElem_set_self]
      · rw [Array.getElem?_setIfInBounds_ne (by omega), List.getElem_set_ne e]
        exact hm j hj
/-- written back -/
theorem PB.stop (h : PB W w A L L) : Below W.heap.size W w := by
  rcases h.2 with ⟨_, h⟩ | ⟨g, o, cur0, cur, t, fr, hA, hg, h0, h1, hsz, hgr, hf, hout, hl, hm⟩
  · exact h
  · have hcur : cur = cur0 := by
      apply Array.ext_getElem?
      intro j
      by_cases hj : j < o ∨ o + L.length ≤ j
      · exact hout j hj
      · have e : j = o + (j - o) := by omega
        rw [e, hm (j - o) (by omega), hl (j - o) (by omega)]
    subst hcur
    refine ⟨hgr.os, hgr.tape, hgr.output, hgr.size, fun k hk => ?_⟩
    by_cases e : k = g
    · subst e; rw [h1, h0]
    · exact hgr.block k hk (fun h => e (by injection h))
end
/-- another block was written -/
theorem WS.other {w w' : World} {r base q : Nat} {v : Value} {L : List UInt8} (h : WS w r base v L) (hg : w.grownBy w' (some q)) (h1 : r ≠ q) (h2 : v.ownBlock ≠ some q) : WS w' r base v L :=
  ⟨hg.cell h.c0 (fun e => h1 (by injection e)), (hg.frozen_far ⟨r, 0, none⟩ h.lt (fun e => h1 (by injection e))).trans h.f, Nat.lt_of_lt_of_le h.lt hg.size, h.own.kept hg (by
    cases hv : v.ownBlock with
    | none => exact .inl rfl
    | some k => exact .inr (by rw [← hv]; exact h2)), h.far⟩
/-- string(b), wherever b begins -/
theorem conv_o (w : World) (A : Option Addr) (c : Nat) (L : List UInt8) (h : ByO w A L) : (convert 25 9 (.slice A L.length c)).run Try.prog w = .ok (.string ⟨L.toArray⟩) w := by
  by_cases hn : L = []
  · subst hn; exact conv_none w A c
  · obtain ⟨g, o, rfl, hg, hd⟩ := h hn
    exact run_convert_bytes_back (P := Try.prog) w 25 9 5 ⟨g, o, none⟩ c L Try.underlying25 Try.underlying5 Try.underlying9 (fun j hj => by
      have e : (⟨g, o, none⟩ : Addr).add j = ⟨g, o + j, none⟩ := by unfold Addr.add; split <;> simp_all
      rw [e]; exact hd j hj)
/-- []byte(s) -/
theorem str_bytes (w : World) (L : List UInt8) : ∃ cp wy, (convert 9 25 (.string ⟨L.toArray⟩)).run Try.prog w = .ok (.slice (some ⟨w.heap.size, 0, none⟩) L.length cp) wy ∧ L.length ≤ cp ∧ ByO wy (some ⟨w.heap.size, 0, none⟩) L ∧ Below w.heap.size w wy := by
  have h := run_bytes_of_string (P := Try.prog) w 9 25 5 ⟨L.toArray⟩ Try.underlying9 Try.underlying25 Try.underlying5
  have hs : (⟨L.toArray⟩ : ByteArray).size = L.length := by simp [ByteArray.size]
  rw [hs] at h
  refine ⟨_, _, h, grownCap_ge _ _ _ _, fun _ => ⟨w.heap.size, 0, rfl, by simp, fun i hi => ?_⟩, g_alloc (g_drew g_refl) _⟩
  rw [Nat.zero_add]
  have := World.cell?_alloc_mark w.drew (bytesRow ⟨L.toArray⟩ (grownCap w L.length 0 5)) 5 ((bytesRow ⟨L.toArray⟩ (grownCap w L.length 0 5)).size, (bytesRow ⟨L.toArray⟩ (grownCap w L.length 0 5)).size + 1) i
  refine this.trans ?_
  rw [bytesRow_at _ _ _ (by simpa using hi)]
  simp
/-- a byte that is one greater, one less -/
theorem inc8 (b : UInt8) : ((b.toNat : Int) + 1) % 256 = ((b + 1).toNat : Int) := by
  have := UInt8.toNat_add b 1
  have h1 : (1 : UInt8).toNat = 1 := rfl
  rw [this, h1]; omega
theorem dec8 (b : UInt8) : (((b + 1).toNat : Int) - 1) % 256 = (b.toNat : Int) := by
  rw [← inc8]
  have := b.toNat_lt
  omega
/-- those ahead of j are one greater -/
def Inc (L M : List UInt8) (j : Nat) : Prop := ∀ t, M[t]? = if t < j then L[t]?.map (· + 1) else L[t]?
theorem Inc.start (L : List UInt8) : Inc L L 0 := fun t => by rw [if_neg (Nat.not_lt_zero t)]
theorem Inc.next {L M : List UInt8} {j : Nat} (h : Inc L M j) (hj : j < L.length) (hm : j < M.length) : M[j] = L[j] ∧ Inc L (M.set j (L[j] + 1)) (j + 1) := by
  constructor
  · have := h j
    rw [if_neg (Nat.lt_irrefl j), List.getElem?_eq_getElem hm, List.getElem?_eq_getElem hj] at this
    injection this
  · intro t
    by_cases e : t = j
    · subst e
      rw [List.getElem?_set_self hm, if_pos (Nat.lt_succ_self t), List.getElem?_eq_getElem hj]
      rfl
    · rw [List.getElem?_set_ne (fun h => e h.symm), h t]
      by_cases h1 : t < j
      · rw [if_pos h1, if_pos (by omega)]
      · rw [if_neg h1, if_neg (by omega)]
theorem Inc.swap {L M : List UInt8} {n : Nat} (h : Inc L M n) (hn : L.length ≤ n) : M = L.map (· + 1) := by
  apply List.ext_getElem?
  intro t
  rw [h t, List.getElem?_map]
  by_cases h1 : t < n
  · rw [if_pos h1]
  · rw [if_neg h1, List.getElem?_eq_none (by omega)]; rfl
/-- those ahead of j are as they were -/
def Dec (L M : List UInt8) (j : Nat) : Prop := ∀ t, M[t]? = if t < j then L[t]? else L[t]?.map (· + 1)
theorem Dec.start (L : List UInt8) : Dec L (L.map (· + 1)) 0 := fun t => by rw [if_neg (Nat.not_lt_zero t), List.getElem?_map]
theorem Dec.next {L M : List UInt8} {j : Nat} (h : Dec L M j) (hj : j < L.length) (hm : j < M.length) : M[j] = L[j] + 1 ∧ Dec L (M.set j L[j]) (j + 1) := by
  constructor
  · have := h j
    rw [if_neg (Nat.lt_irrefl j), List.getElem?_eq_getElem hm, List.getElem?_eq_getElem hj] at this
    injection this
  · intro t
    by_cases e : t = j
    · subst e
      rw [List.getElem?_set_self hm, if_pos (Nat.lt_succ_self t), List.getElem?_eq_getElem hj]
    · rw [List.getElem?_set_ne (fun h => e h.symm), h t]
      by_cases h1 : t < j
      · rw [if_pos h1, if_pos (by omega)]
      · rw [if_neg h1, if_neg (by omega)]
theorem Dec.stop {L M : List UInt8} {n : Nat} (h : Dec L M n) (hn : L.length ≤ n) (hM : M.length = L.length) : M = L := by
  apply List.ext_getElem?
  intro t
  rw [h t]
  by_cases h1 : t < n
  · rw [if_pos h1]
  · rw [if_neg h1, List.getElem?_eq_none (by omega)]; rfl
end Go.Proofs.Ytohnhjmiblgkkaa
