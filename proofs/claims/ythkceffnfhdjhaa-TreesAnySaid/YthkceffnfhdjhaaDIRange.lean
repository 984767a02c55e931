/-
  THE CONTRACT of Range (values: int): the pairs with some indices, in a row without spare capacity.
-/
import Derived.Test.YthkceffnfhdjhaaDIIter
import Derived.Test.YthkceffnfhdjhaaDIFind
namespace Go.Proofs.Ythkceffnfhdjhaa.DI
open Go.RowKit Go.Shelf Go.Deep
attribute [local go_sem] Oper.semAt_some

set_option maxHeartbeats 1000000 in
theorem pairs_any (fn : Nat) (T : Tr Int) (c d : Int) (w : World) :
    Calls Try.prog 47 #[.agg #[.func (.func fn) #[] #[], .pointer T.ad], .int .i64 c, .int .i64 d] w fun e w' =>
      e = .returned (.func (.func 60) #[] #[.pointer (some ⟨w.heap.size, 0, none⟩), .pointer (some ⟨w.heap.size + 1, 0, none⟩), .pointer (some ⟨w.heap.size + 2, 0, none⟩)]) ∧
      w' = ((w.alloc (.cells #[.func (.func fn) #[] #[], .pointer T.ad] 26 (0, 0))).alloc (.cells #[.int .i64 c] 3 (0, 0))).alloc (.cells #[.int .i64 d] 3 (0, 0)) := by
  go_enter Try.func47, Try.ntmps47
  go_wp2
  go_ret
  exact ⟨rfl, rfl⟩

set_option maxHeartbeats 1000000 in
theorem len_any (fn : Nat) (T : Tr Int) (w : World) (hT : Lies w T) :
    Calls Try.prog 14 #[.agg #[.func (.func fn) #[] #[], .pointer T.ad]] w fun e w' =>
      e = .returned (.int .i64 (T.sz : Nat)) ∧ Below w.heap.size w w' := by
  have HT := hid (hT.below (g_alloc (g_refl (a := w)) (.cells #[.func (.func fn) #[] #[], .pointer T.ad] 26 (0, 0))))
  clear hT
  go_enter Try.func14, Try.ntmps14
  go_wp2_with fail
  refine (count_any T _ HT.out).mono ?_
  rintro _ _ ⟨rfl, rfl⟩
  go_wp2
  go_ret
  exact ⟨rfl, g_alloc g_refl _⟩

/-- the slice at A holds the pairs l -/
def RowP (w : World) (A : Option Addr) (l : List (Int × Int)) : Prop :=
  l ≠ [] → ∃ (g : Nat) (arr : Array Value), A = some ⟨g, 0, none⟩ ∧ w.heap[g]? = some (.cells arr 50 (0, 0)) ∧ ∀ i (p : Int × Int), l[i]? = some p → arr[2 * i]? = some (.int .i64 p.1) ∧ arr[2 * i + 1]? = some (.int .i64 p.2)
theorem RowP.below {w w' : World} {A : Option Addr} {l : List (Int × Int)} (h : RowP w A l) (hb : Below w.heap.size w w') : RowP w' A l := fun hne => by
  obtain ⟨g, arr, e, hg, hx⟩ := h hne
  exact ⟨g, arr, e, (hb.block g (Array.getElem?_eq_some_iff.1 hg).1).trans hg, hx⟩
def Ranges (w : World) (l : List (Int × Int)) (e : Ending) (w' : World) : Prop := ∃ A, e = .returned (.slice A l.length l.length) ∧ RowP w' A l ∧ Below w.heap.size w w'

theorem infoP : (Try.prog.info? 50).map (fun i => (i.zero.map Value.cells, i.size, i.bytes)) = some (some #[.int .i64 0, .int .i64 0], 2, 16) := by kernel_rfl
theorem info3 : ∃ (i : TypeInfo) (z : Value), Try.prog.info? 50 = some i ∧ i.zero = some z ∧ i.size = 2 ∧ i.bytes = 16 := by
  obtain ⟨i, hi, h⟩ := Option.map_eq_some_iff.1 infoP
  injection h with h1 h2
  injection h2 with h2 h3
  obtain ⟨z, hz, -⟩ := Option.map_eq_some_iff.1 h1
  exact ⟨i, z, hi, hz, h2, h3⟩
theorem made (m : Nat) (hm : m ≤ 1000000) : ∃ MC : Array Value, MC.size = 2 * m ∧ ∀ W : World, (Instr.makeSlice 55 (.int .i64 0) (.int .i64 (m : Nat))).run Try.prog W = .ok (.slice (some ⟨W.heap.size, 0, none⟩) 0 m) (W.alloc (.cells MC 50 (0, 0))) := by
  obtain ⟨i, z, hi, hz, h2, h3⟩ := info3
  refine ⟨madeCells z.cells (m * 2), by rw [size_madeCells]; omega, fun W => ?_⟩
  have h := run_make (P := Try.prog) W 55 50 i z Try.underlying55 hi hz .i64 .i64 0 (m : Int) (by omega) (by omega) (by rw [h3]; omega) (by omega)
  rw [h2] at h
  exact h
theorem alloc_new (w : World) (o : Obj) : (w.alloc o).heap[w.heap.size]? = some o := by
  show (w.heap.push o)[w.heap.size]? = some o
  simp
theorem alloc_kept {w : World} {b : Nat} {p : Obj} (h : w.heap[b]? = some p) (o : Obj) : (w.alloc o).heap[b]? = some p :=
  ((g_alloc (g_refl (a := w)) o).block b (Array.getElem?_eq_some_iff.1 h).1).trans h
def encP (p : Int × Int) : List Value := [.int .i64 p.1, (.int .i64 p.2)]
/-- block g has room for m pairs, and holds the pairs l -/
def OutR (w : World) (g m : Nat) (l : List (Int × Int)) : Prop := w.ownsRow g 50 2 (.slice (some ⟨g, 0, none⟩) l.length m) l.length (l.flatMap encP)
theorem encP_len (l : List (Int × Int)) : (l.flatMap encP).length = 2 * l.length := by
  induction l with
  | nil => rfl
  | cons p t ih => rw [List.flatMap_cons, List.length_append, ih]; simp [encP]; omega
theorem encP_get : ∀ (l : List (Int × Int)) (i : Nat) (p : Int × Int), l[i]? = some p → (l.flatMap encP)[2 * i]? = some (.int .i64 p.1) ∧ (l.flatMap encP)[2 * i + 1]? = some (.int .i64 p.2)
  | [], i, p, h => by cases h
  | q :: t, 0, p, h => by
    simp at h; subst h
    exact ⟨rfl, rfl⟩
  | q :: t, i + 1, p, h => by
    have := encP_get t i p (by simpa using h)
    rw [List.flatMap_cons, show 2 * (i + 1) = 2 * i + 1 + 1 by omega]
    exact this
theorem OutR.rowP {w : World} {g m : Nat} {l : List (Int × Int)} (h : OutR w g m l) : RowP w (some ⟨g, 0, none⟩) l := fun hne => by
  rcases h.2 with ⟨h, -⟩ | ⟨g', cap, cur, e, -, h1, -, -, -, h3⟩
  · cases h
  · injection e with e1
    injection e1 with e1; injection e1 with e1
    subst e1
    refine ⟨g, cur, rfl, h1, fun i p hp => ?_⟩
    have hi : i < l.length := (List.getElem?_eq_some_iff.1 hp).1
    obtain ⟨e1, e2⟩ := encP_get l i p hp
    rw [← h3, List.getElem?_take, if_pos (by omega), Array.getElem?_toList] at e1 e2
    exact ⟨e1, e2⟩
theorem OutR.block {w : World} {g m : Nat} {l : List (Int × Int)} (h : OutR w g m l) : ∃ cur, w.heap[g]? = some (.cells cur 50 (0, 0)) := by
  rcases h.2 with ⟨h, -⟩ | ⟨g', cap, cur, e, -, h1, -, -, -, h3⟩
  · cases h
  · injection e with e1
    injection e1 with e1; injection e1 with e1
    subst e1
    exact ⟨cur, h1⟩
theorem OutR.same {w w' : World} {g m : Nat} {l : List (Int × Int)} (h : OutR w g m l) (e : w'.heap[g]? = w.heap[g]?) : OutR w' g m l := by
  refine ⟨h.1, ?_⟩
  rcases h.2 with h | ⟨g', cap, cur, e1, hb, h1, rest⟩
  · exact .inl h
  · have : g' = g := by injection e1 with e1; injection e1 with e1; injection e1 with e1; exact e1.symm
    subst this
    exact .inr ⟨g', cap, cur, e1, hb, e.trans h1, rest⟩
theorem five (w : World) (o1 o2 o3 o4 o5 : Obj) : let W := ((((w.alloc o1).alloc o2).alloc o3).alloc o4).alloc o5
    W.heap[w.heap.size]? = some o1 ∧ W.heap[w.heap.size + 1]? = some o2 ∧ W.heap[w.heap.size + 1 + 1]? = some o3 ∧ W.heap[w.heap.size + 1 + 1 + 1]? = some o4 ∧ W.heap[w.heap.size + 1 + 1 + 2]? = some o5 ∧ Below w.heap.size w W ∧ W.heap.size = w.heap.size + 5 := by
  intro W
  have s1 : (w.alloc o1).heap.size = w.heap.size + 1 := by simp
  have s2 : ((w.alloc o1).alloc o2).heap.size = w.heap.size + 1 + 1 := by simp
  have s3 : (((w.alloc o1).alloc o2).alloc o3).heap.size = w.heap.size + 1 + 1 + 1 := by simp
  have s4 : ((((w.alloc o1).alloc o2).alloc o3).alloc o4).heap.size = w.heap.size + 1 + 1 + 2 := by simp
  refine ⟨alloc_kept (alloc_kept (alloc_kept (alloc_kept (alloc_new w o1) o2) o3) o4) o5, ?_, ?_, ?_, ?_, g_alloc (g_alloc (g_alloc (g_alloc (g_alloc g_refl _) _) _) _) _, by simp [W]⟩
  · rw [← s1]; exact alloc_kept (alloc_kept (alloc_kept (alloc_new _ o2) o3) o4) o5
  · rw [← s2]; exact alloc_kept (alloc_kept (alloc_new _ o3) o4) o5
  · rw [← s3]; exact alloc_kept (alloc_new _ o4) o5
  · rw [← s4]; exact alloc_new _ o5
theorem putObj_kept {w : World} {b r : Nat} {p o : Obj} (h : w.heap[b]? = some p) (hn : b ≠ r) : (w.putObj r o).heap[b]? = some p := (World.putObj_heap_other hn).trans h
theorem putObj_below {n : Nat} {a w : World} {r : Nat} {o : Obj} (h : Below n a w) (hr : n ≤ r) : Below n a (w.putObj r o) :=
  ⟨h.os, h.tape, h.output, by rw [World.putObj_size]; exact h.size, fun i hi => (World.putObj_heap_other (by omega)).trans (h.block i hi)⟩

theorem cell_two (w : World) (a b : Value) (t : TypeId) : ∀ (j : Nat) (u : Value), [a, b][j]? = some u → (w.alloc (.cells #[a, b] t (0, 0))).cell? ((⟨w.heap.size, 0, none⟩ : Addr).add j) = some u := by
  intro j u h
  match j, h with
  | 0, h => simp at h; subst h; simp [Addr.add]
  | 1, h => simp at h; subst h; simp [Addr.add]
theorem Itr.belowN {n B : Nat} {e : TypeId} {a b : World} (h : Itr B e a b) (h1 : n ≤ B) (h2 : n ≤ a.heap.size) : Below n a b :=
  ⟨h.os, h.tape, h.output, h.size, fun i hi => by
    have hl : i < a.heap.size := by omega
    rw [h.kept i a.heap[i] (Array.getElem?_eq_getElem hl) (.inl (by omega)), Array.getElem?_eq_getElem hl]⟩
/-- between two rounds: k pairs have come -/
structure Between (w : World) (g m D : Nat) (R0 : Loop) (l : List (Int × Int)) (k : Nat) (W : World) : Prop where
  km : k ≤ m
  lop : W.heap[D + 1]? = some (.loop R0)
  dfr : W.heap[D]? = some (.deferred (some []))
  box : W.heap[g + 1]? = some (.cells #[.slice (some ⟨g, 0, none⟩) k m] 55 (0, 0))
  out : OutR W g m (l.take k)
  bel : Below w.heap.size w W
theorem Between.itr {w : World} {g m D : Nat} {R0 : Loop} {l : List (Int × Int)} {k : Nat} {a b : World} (h : Between w g m D R0 l k a) (hg : g + 1 < D) (hw : w.heap.size ≤ g) (i : Itr (D + 2) 24 a b) : Between w g m D R0 l k b := by
  have h1 := (Array.getElem?_eq_some_iff.1 h.lop).1
  refine ⟨h.km, i.kept _ _ h.lop (.inl (by omega)), i.kept _ _ h.dfr (.inl (by omega)), i.kept _ _ h.box (.inl (by omega)), ?_, h.bel.trans (i.belowN (by omega) (by have := h.bel.size; omega))⟩
  obtain ⟨cur, hc⟩ := h.out.block
  exact h.out.same (by rw [hc, i.kept _ _ hc (.inl (by omega))])
/-- what one round does: behind the append, the store and the record's turns -/
theorem Between.step {w : World} {g m D : Nat} {R0 R1 : Loop} {l : List (Int × Int)} {k : Nat} {p : Int × Int} {a w5 : World} (h : Between w g m D R0 l k a) (hg : g + 1 < D) (hw : w.heap.size ≤ g) (hp : l[k]? = some p) (hk : k < m) (hl : k < l.length) {o1 o2 : Obj}
    (ho : w5.ownsRow g 50 2 (.slice (some ⟨g, 0, none⟩) (k + 1) m) (k + 1) ((l.take k).flatMap encP ++ encP p))
    (hgr : (((a.alloc o1).putObj (D + 1) (.loop R1)).alloc o2).grownBy w5 (some g)) :
    Between w g m D R0 l (k + 1) ((w5.setCell ⟨g + 1, 0, none⟩ (.slice (some ⟨g, 0, none⟩) (k + 1) m)).putObj (D + 1) (.loop R0)) ∧
      Bod 55 50 a ((w5.setCell ⟨g + 1, 0, none⟩ (.slice (some ⟨g, 0, none⟩) (k + 1) m)).putObj (D + 1) (.loop R0)) ∧
      w5.heap[D + 1]? = some (.loop R1) ∧ w5.heap[g + 1]? = some (.cells #[.slice (some ⟨g, 0, none⟩) k m] 55 (0, 0)) := by
  have hD := (Array.getElem?_eq_some_iff.1 h.lop).1
  have y1 : ∀ (b : Nat) (o : Obj), a.heap[b]? = some o → b ≠ D + 1 → b ≠ g → w5.heap[b]? = some o := fun b o hb h1 h2 => by
    have e := alloc_kept (putObj_kept (o := .loop R1) (alloc_kept hb o1) h1) o2
    rw [hgr.block b (Array.getElem?_eq_some_iff.1 e).1 (fun e => h2 (by injection e))]; exact e
  have hs5 : a.heap.size ≤ w5.heap.size := by have := hgr.size; simp at this; omega
  have hL5 : w5.heap[D + 1]? = some (.loop R1) := by
    have e : ((a.alloc o1).putObj (D + 1) (.loop R1)).heap[D + 1]? = some (.loop R1) := World.putObj_heap_same (by simp; omega)
    have e := alloc_kept e o2
    rw [hgr.block _ (Array.getElem?_eq_some_iff.1 e).1 (fun e => by injection e; omega)]; exact e
  have hb5 : w5.heap[g + 1]? = some (.cells #[.slice (some ⟨g, 0, none⟩) k m] 55 (0, 0)) := y1 _ _ h.box (by omega) (by omega)
  have hbx : Boxed (w5.setCell ⟨g + 1, 0, none⟩ (.slice (some ⟨g, 0, none⟩) (k + 1) m)) (g + 1) 55 (.slice (some ⟨g, 0, none⟩) (k + 1) m) := Boxed.set (W := w5) (B := g + 1) (t := 55) (v := .slice (some ⟨g, 0, none⟩) k m) _ hb5
  have hoth : ∀ b, b ≠ g + 1 → (w5.setCell ⟨g + 1, 0, none⟩ (.slice (some ⟨g, 0, none⟩) (k + 1) m)).heap[b]? = w5.heap[b]? := fun b hb => heap_setCell_other w5 ⟨g + 1, 0, none⟩ b _ hb
  have hs6 : (w5.setCell ⟨g + 1, 0, none⟩ (.slice (some ⟨g, 0, none⟩) (k + 1) m)).heap.size = w5.heap.size := by simp
  have htk : l.take (k + 1) = l.take k ++ [p] := by rw [List.take_succ_eq_append_getElem hl]; congr 1; rw [List.getElem?_eq_getElem hl] at hp; injection hp with hp; rw [hp]
  have hlk : (l.take (k + 1)).length = k + 1 := by rw [List.length_take]; omega
  refine ⟨⟨hk, World.putObj_heap_same (by rw [hs6]; omega), putObj_kept ((hoth _ (by omega)).trans (y1 _ _ h.dfr (by omega) (by omega))) (by omega), putObj_kept hbx (by omega), ?_, ?_⟩, ⟨?_, ?_⟩, hL5, hb5⟩
  · have ho2 : OutR w5 g m (l.take (k + 1)) := by
      unfold OutR
      rw [hlk, htk, List.flatMap_append, List.flatMap_singleton]; exact ho
    exact ho2.same ((World.putObj_heap_other (by omega)).trans (hoth _ (by omega)))
  · refine putObj_below ?_ (by omega)
    refine ⟨?_, ?_, ?_, ?_, fun i hi => ?_⟩
    · exact hgr.os.trans h.bel.os
    · exact hgr.tape.trans h.bel.tape
    · exact hgr.output.trans h.bel.output
    · rw [hs6]; have := h.bel.size; omega
    · rw [hoth _ (by omega)]
      have hi2 : i < a.heap.size := by have := h.bel.size; omega
      rw [y1 i a.heap[i] (Array.getElem?_eq_getElem hi2) (by omega) (by omega), ← Array.getElem?_eq_getElem hi2]
      exact h.bel.block i hi
  · rw [World.putObj_size, hs6]; exact hs5
  · intro b arr t z hb n1 n2
    obtain ⟨cur, hcur⟩ := h.out.block
    have b1 : b ≠ D + 1 := fun e => by rw [e, h.lop] at hb; cases hb
    have b2 : b ≠ g := fun e => by rw [e, hcur] at hb; injection hb with hb; injection hb with _ hb _; exact n2 hb.symm
    have b3 : b ≠ g + 1 := fun e => by rw [e, h.box] at hb; injection hb with hb; injection hb with _ hb _; exact n1 hb.symm
    exact putObj_kept ((hoth _ b3).trans (y1 _ _ hb b1 b2)) b1
/-- a range over a function value, at the wide fence -/
theorem range_wide {P : Program} {g : Operand} {ps : Array Tmp} {assign body : Code} {Q : Exit → Act → World → Prop} {a : Act} {w : World} {n gf : Nat} {lb : Array Value} (hg : a.eval g = .func (.func gf) #[] lb)
    (eg : ∀ args w, (callFunc gf args).run P w = .ok (.enter gf args) w)
    (hc : ∀ f0, CallsIn Fence.wide n P gf (#[.func (.yield (w.heap.size + 1)) #[] #[]] ++ lb) ((w.alloc (.deferred (some []))).alloc (.loop { state := .ready, pending := none, fn := f0, tmps := a.tmps, params := ps, assign := assign, body := body, defers := w.heap.size }))
      (rangePost Fence.wide (n + 1) P (w.heap.size + 1) Q { a with defers := { target := .collected w.heap.size, args := #[] } :: a.defers })) :
    (Code.rangeFunc g ps assign body).wpIn Fence.wide (n + 1) P Q a w := by
  refine wpIn_rangeFunc ?_
  intro f0 _
  have hc0 := hc f0
  obtain ⟨W1, hW1⟩ : ∃ W1, (w.alloc (.deferred (some []))).alloc (.loop { state := .ready, pending := none, fn := f0, tmps := a.tmps, params := ps, assign := assign, body := body, defers := w.heap.size }) = W1 := ⟨_, rfl⟩
  rw [hW1] at hc0
  refine ⟨w.heap.size + 1, [{ target := .collected w.heap.size, args := #[] }], W1, { target := .fn (.func gf) lb, args := #[.func (.yield (w.heap.size + 1)) #[] #[]] }, W1, gf, #[.func (.yield (w.heap.size + 1)) #[] #[]] ++ lb, W1, ?_, ?_, ?_, ?_, ?_, ?_⟩
  · rw [← hW1]; exact run_enterLoop_outer _ _ _ _ _
  · simp only [resolve, hg]
    simp [go_sem]
  · intro f1 _; exact trivial
  · simp [invoke, go_sem, eg]
  · intro _; exact Nat.succ_pos _
  · exact hc0

set_option maxRecDepth 20000 in
set_option maxHeartbeats 2000000 in
theorem range_some (fn : Nat) (T : Tr Int) (x y : Int) (c m : Nat) (w : World) (hT : Lies w T) (hs : T.sz ≤ 1000000) (hm : 0 < m) (hcm : c + m ≤ T.sz) (hx : (c : Int) = max x 0) (hy : ((c + m : Nat) : Int) = min y (T.sz : Int)) :
    Calls Try.prog 23 #[.agg #[.func (.func fn) #[] #[], .pointer T.ad], .int .i64 x, .int .i64 y] w (Ranges w ((T.li.drop c).take m)) := by
  have HT := hid (hT.below (g_alloc (g_refl (a := w)) (.cells #[.func (.func fn) #[] #[], .pointer T.ad] 26 (0, 0))))
  have hA : Below w.heap.size w (w.alloc (.cells #[.func (.func fn) #[] #[], .pointer T.ad] 26 (0, 0))) := g_alloc g_refl _
  have HA := hid hA
  have HS := hid hs
  have HCM := hid hcm
  obtain ⟨d, hd⟩ : ∃ d : Int, ((c + m : Nat) : Int) = d := ⟨_, rfl⟩
  have m1 : (if x < 0 then (0 : Int) else x) = (c : Int) := by split <;> omega
  have m2 : (if (T.sz : Int) < y then (T.sz : Int) else y) = d := by split <;> omega
  have m3 : (if y < (T.sz : Int) then y else (T.sz : Int)) = d := by split <;> omega
  have q1 : (0 : Int) ≤ (c : Int) := by omega
  have q2 : (c : Int) ≤ 1000000 := by omega
  have q3 : d - (c : Int) = (m : Int) := by omega
  have q4 : (0 : Int) ≤ d := by omega
  have q5 : d ≤ 1000000 := by omega
  have q6 : (c : Int) < d := by omega
  have q7 : ¬ d ≤ (c : Int) := by omega
  have HD := hid hd
  obtain ⟨MC, hMC, hmk⟩ := made m (by omega)
  have HMC := hid hMC
  clear hT hs hm hcm hx hy hd hA hMC
  refine (callsIn_wide (n := 4)).1 ?_
  refine callsIn_of_wp_marks Try.func23 rfl trivial ?_ rfl
  simp only [Try.ntmps23, List.size_toArray, List.length_cons, List.length_nil, Nat.reduceAdd, Nat.reduceSub, Array.replicate_succ, Array.replicate_zero, List.push_toArray, List.append_toArray, List.nil_append, List.cons_append]
  gi_wp2_with (first | (refine ⟨trivial, ?_⟩; gi_at_call 14; refine (callsIn_wide.2 (len_any fn T _ HT.out)).mono ?_; rintro _ w1 ⟨rfl, hb1⟩; have hz1 : w.heap.size < w1.heap.size := (by have := hb1.size; simp at this; omega); have k0 := (hb1.cell (p := ⟨w.heap.size, 0, none⟩) (by simp)).trans ((box2p w _ _ _).1); have k1 := (hb1.cell (p := ⟨w.heap.size, 1, none⟩) (by simp)).trans ((box2p w _ _ _).2)) | (refine ⟨trivial, ?_⟩; gi_at_call 47; refine (callsIn_wide.2 (pairs_any fn T _ _ _)).mono ?_; rintro _ w2 ⟨rfl, rfl⟩))
  obtain ⟨f1, f2, f3, f4, f5, fb, fz⟩ := five w1 (.cells MC 50 (0, 0)) (.cells #[.slice (some ⟨w1.heap.size, 0, none⟩) 0 m] 55 (0, 0)) (.cells #[.func (.func fn) #[] #[], .pointer T.ad] 26 (0, 0)) (.cells #[.int .i64 (c : Nat)] 3 (0, 0)) (.cells #[.int .i64 d] 3 (0, 0))
  have hW : Below w.heap.size w w1 := g_trans HA.out hb1
  have hL1 : Lies w1 T := HT.out.below hb1
  generalize hW2 : ((((w1.alloc (.cells MC 50 (0, 0))).alloc (.cells #[.slice (some ⟨w1.heap.size, 0, none⟩) 0 m] 55 (0, 0))).alloc (.cells #[.func (.func fn) #[] #[], .pointer T.ad] 26 (0, 0))).alloc (.cells #[.int .i64 (c : Nat)] 3 (0, 0))).alloc (.cells #[.int .i64 d] 3 (0, 0)) = W2 at *
  have HF := hid (And.intro f1 (And.intro f2 (And.intro f3 (And.intro f4 (And.intro f5 (And.intro fb fz))))))
  have HWW := hid hW
  have HZ1 := hid hz1
  have HL1 := hid hL1
  generalize hg : w1.heap.size = g at *
  have HG := hid hg
  clear f1 f2 f3 f4 f5 fb fz hW hL1 hW2 k0 k1 hb1 hz1 hg hmk m1 m2 m3 q1 q2 q3 q4 q5 q6 q7
  refine range_wide (n := 3) (gf := 60) (lb := #[.pointer (some ⟨g + 1 + 1, 0, none⟩), .pointer (some ⟨g + 1 + 1 + 1, 0, none⟩), .pointer (some ⟨g + 1 + 1 + 2, 0, none⟩)]) rfl (enters_of Try.func60 (by kernel_rfl) rfl) ?_
  intro f0
  generalize hR0 : (Loop.mk _ _ _ _ _ _ _ _) = R0
  have hR1 : R0.state = .ready := by rw [← hR0]
  have hR2 : R0.pending = none := by rw [← hR0]
  have hgw : w.heap.size < g := HZ1.out
  have hgD : g + 1 < W2.heap.size := by rw [HF.out.2.2.2.2.2.2]; omega
  have hll : ((T.li.drop c).take m).length = m := by rw [List.length_take, List.length_drop, T.li_len]; have := HCM.out; omega
  have HLL := hid hll
  generalize hl : (T.li.drop c).take m = ll at *
  have HLI := hid hl
  have k1 : ∀ (b : Nat) (o : Obj), W2.heap[b]? = some o → ((W2.alloc (.deferred (some []))).alloc (.loop R0)).heap[b]? = some o := fun b o h => alloc_kept (alloc_kept h _) _
  have hs3 : ((W2.alloc (.deferred (some []))).alloc (.loop R0)).heap.size = W2.heap.size + 2 := by simp
  have hb3 : Below w.heap.size w ((W2.alloc (.deferred (some []))).alloc (.loop R0)) := g_alloc (g_alloc (HWW.out.trans (HF.out.2.2.2.2.2.1.mono (by omega))) _) _
  have hrec : ((W2.alloc (.deferred (some []))).alloc (.loop R0)).heap[W2.heap.size + 1]? = some (.loop R0) := by
    have := alloc_new (W2.alloc (.deferred (some []))) (.loop R0)
    rwa [show (W2.alloc (.deferred (some []))).heap.size = W2.heap.size + 1 by simp] at this
  have hj0 : Between w g m W2.heap.size R0 ll 0 ((W2.alloc (.deferred (some []))).alloc (.loop R0)) :=
    ⟨Nat.zero_le _, hrec, alloc_kept (alloc_new W2 _) _, k1 _ _ HF.out.2.1, ⟨by simp, .inr ⟨g, m, MC, rfl, Nat.le_refl _, k1 _ _ HF.out.1, Nat.zero_le _, by have := HCM.out; have := HS.out; unfold maxLen; omega, by rw [HMC.out]; omega, by simp⟩⟩, hb3⟩
  have HJ0 := hid hj0
  refine (pairs1_in (W2.heap.size + 1) (g + 1 + 1) (g + 1 + 1 + 1) (g + 1 + 1 + 2) (W2.heap.size + 2) fn c m T (Between w g m W2.heap.size R0 ll) (fun k a b h i => h.itr hgD (by omega) i) HS.out HCM.out ?hY _ (by omega) (k1 _ _ HF.out.2.2.1) (k1 _ _ HF.out.2.2.2.1) (by rw [HD.out]; exact k1 _ _ HF.out.2.2.2.2.1) (HL1.out.below (by have := HG.out; subst this; exact g_alloc (g_alloc HF.out.2.2.2.2.2.1 _) _)) HJ0.out).mono ?hE
  case hY =>
    intro k p W4 hk hp hj
    refine ⟨_, _, _, _, run_yield hj.lop (by rw [← hR0]; rfl), roundIn_of_wpIn trivial ?_⟩
    have HJ := hid hj
    have HP := hid hp
    have HK := hid hk
    have HGW := hid (And.intro hgw hgD)
    clear hj hp hk hR1 hR2 hgw hgD hl hll k1 hs3 hb3 hrec hj0 HJ0
    subst hR0
    dsimp only
    gi_wp2
    refine ⟨_, run_beginRound (alloc_kept HJ.out.lop _) rfl, ?_⟩
    generalize hR0 : Loop.mk _ _ _ _ _ _ _ _ = R0 at HJ ⊢
    have hst : R0.state = .ready ∧ R0.pending = none := by rw [← hR0]; exact ⟨rfl, rfl⟩
    clear hR0
    generalize hR1 : Loop.mk _ _ _ _ _ _ _ _ = R1
    have hRR : Loop.mk .ready none R1.fn R1.tmps R1.params R1.assign R1.body R1.defers = R0 := by
      rw [← hR1]
      obtain ⟨a1, a2⟩ := hst
      cases R0
      simp only at a1 a2
      subst a1; subst a2
      rfl
    have HRR := hid hRR
    clear hR1 hRR hst
    have hown : (((W4.alloc (.cells #[.int .i64 p.1, (.int .i64 p.2)] 50 (0, 0))).putObj (W2.heap.size + 1) (.loop R1)).alloc (.cells #[.int .i64 p.1, (.int .i64 p.2)] 50 (0, 0))).ownsRow g 50 2 (.slice (some ⟨g, 0, none⟩) k m) k ((ll.take k).flatMap encP) := by
      obtain ⟨cur, hcur⟩ := HJ.out.out.block
      have h := HJ.out.out.same (w' := ((W4.alloc (.cells #[.int .i64 p.1, (.int .i64 p.2)] 50 (0, 0))).putObj (W2.heap.size + 1) (.loop R1)).alloc (.cells #[.int .i64 p.1, (.int .i64 p.2)] 50 (0, 0))) (by rw [hcur]; exact alloc_kept (putObj_kept (alloc_kept hcur _) (by have := HGW.out; omega)) _)
      unfold OutR at h
      rwa [List.length_take, HLL.out, Nat.min_eq_left (by have := HK.out; omega)] at h
    have hpk : ll[k]? = some p := by rw [← HLI.out, List.getElem?_take, if_pos HK.out, List.getElem?_drop]; exact HP.out
    have HOW := hid hown
    have HPK := hid hpk
    have hy0 := box_cell (putObj_kept (o := .loop R1) (alloc_kept HJ.out.box (.cells #[.int .i64 p.1, (.int .i64 p.2)] 50 (0, 0))) (show g + 1 ≠ W2.heap.size + 1 by have := HGW.out; omega)) 0
    have hlt4 : W2.heap.size + 1 < W4.heap.size := (Array.getElem?_eq_some_iff.1 HJ.out.lop).1
    have hy1 := box_cell (putObj_kept (o := .loop R1) (alloc_new W4 (.cells #[.int .i64 p.1, (.int .i64 p.2)] 50 (0, 0))) (show W4.heap.size ≠ W2.heap.size + 1 by omega)) 0
    have hy2 := box_cell (putObj_kept (o := .loop R1) (alloc_new W4 (.cells #[.int .i64 p.1, (.int .i64 p.2)] 50 (0, 0))) (show W4.heap.size ≠ W2.heap.size + 1 by omega)) 1
    have h0 : ((W4.alloc (.cells #[.int .i64 p.1, (.int .i64 p.2)] 50 (0, 0))).putObj (W2.heap.size + 1) (.loop R1)).cell? ⟨g + 1, 0, none⟩ = some (.slice (some ⟨g, 0, none⟩) k m) := hy0.trans rfl
    have h1 : ((W4.alloc (.cells #[.int .i64 p.1, (.int .i64 p.2)] 50 (0, 0))).putObj (W2.heap.size + 1) (.loop R1)).cell? ⟨W4.heap.size, 0, none⟩ = some (.int .i64 p.1) := hy1.trans rfl
    have h2 : ((W4.alloc (.cells #[.int .i64 p.1, (.int .i64 p.2)] 50 (0, 0))).putObj (W2.heap.size + 1) (.loop R1)).cell? ⟨W4.heap.size, 1, none⟩ = some (.int .i64 p.2) := hy2.trans rfl
    have HY : Hid (∀ w5, w5.ownsRow g 50 2 (.slice (some ⟨g, 0, none⟩) (k + 1) m) (k + 1) ((ll.take k).flatMap encP ++ encP p) → (((W4.alloc (.cells #[.int .i64 p.1, (.int .i64 p.2)] 50 (0, 0))).putObj (W2.heap.size + 1) (.loop R1)).alloc (.cells #[.int .i64 p.1, (.int .i64 p.2)] 50 (0, 0))).grownBy w5 (some g) → Between w g m W2.heap.size R0 ll (k + 1) ((w5.setCell ⟨g + 1, 0, none⟩ (.slice (some ⟨g, 0, none⟩) (k + 1) m)).putObj (W2.heap.size + 1) (.loop R0)) ∧ Bod 55 50 W4 ((w5.setCell ⟨g + 1, 0, none⟩ (.slice (some ⟨g, 0, none⟩) (k + 1) m)).putObj (W2.heap.size + 1) (.loop R0)) ∧ w5.heap[W2.heap.size + 1]? = some (.loop R1) ∧ w5.heap[g + 1]? = some (.cells #[.slice (some ⟨g, 0, none⟩) k m] 55 (0, 0))) := hid fun w5 ho hg => HJ.out.step HGW.out.2 (by have := HGW.out; omega) hpk HK.out (by rw [HLL.out]; exact HK.out) ho hg
    clear hown hpk hy0 hy1 hy2 hlt4
    obtain ⟨i0, z0, hi0, hz0, hz1, hz2⟩ := info3
    generalize hYY : (W4.alloc (.cells #[.int .i64 p.1, (.int .i64 p.2)] 50 (0, 0))).putObj (W2.heap.size + 1) (.loop R1) = Y at *
    gi_wp2_with (gi_at_builtin; refine wpListIn_append_fits _ rfl _ _ 55 rfl g 50 i0 2 Try.underlying55 hi0 hz1 g k m _ rfl HOW.out ⟨Y.heap.size, 0, none⟩ 1 1 (encP p) rfl rfl (cell_two _ _ _ _) (by intro u hu; simp [encP] at hu; rcases hu with rfl | rfl <;> rfl) (by have := HK.out; omega) ?_)
    intro w5 ho hg
    obtain ⟨hbt, hbod, hl5, hb5⟩ := HY.out w5 ho hg
    have hc5 : w5.cell? ⟨g + 1, 0, none⟩ = some (.slice (some ⟨g, 0, none⟩) k m) := (box_cell hb5 0).trans rfl
    have hf5 : w5.frozen? ⟨g + 1, 0, none⟩ = false := by simp [World.frozen?, hb5]
    have HBT := hid hbt
    have HBOD := hid hbod
    have hl6 : (w5.setCell ⟨g + 1, 0, none⟩ (.slice (some ⟨g, 0, none⟩) (k + 1) m)).heap[W2.heap.size + 1]? = some (.loop R1) := (heap_setCell_other w5 ⟨g + 1, 0, none⟩ _ _ (show W2.heap.size + 1 ≠ g + 1 by have := HGW.out; omega)).trans hl5
    have HL6 := hid hl6
    clear ho hg hbt hbod hl5 hb5 hl6 HY h0 h1 h2 hYY
    gi_wp2
    refine ⟨_, _, run_endRound none HL6.out, ?_⟩
    simp only [Option.isNone_none, if_true]
    rw [HRR.out]
    exact ⟨trivial, HBT.out, HBOD.out⟩
  case hE =>
    rintro _ W4 ⟨⟨v, rfl⟩, hj⟩
    refine ⟨_, _, run_endLoop hj.lop (by rw [hR1]; decide), ?_⟩
    have hb4 := putObj_kept (o := .loop { R0 with state := .exhausted }) hj.box (show g + 1 ≠ W2.heap.size + 1 by omega)
    have hd4 := putObj_kept (o := .loop { R0 with state := .exhausted }) hj.dfr (show W2.heap.size ≠ W2.heap.size + 1 by omega)
    have hbl4 := putObj_below (o := .loop { R0 with state := .exhausted }) hj.bel (show w.heap.size ≤ W2.heap.size + 1 by omega)
    have hc4 : (W4.putObj (W2.heap.size + 1) (.loop { R0 with state := .exhausted })).cell? ⟨g + 1, 0, none⟩ = some (.slice (some ⟨g, 0, none⟩) m m) := (box_cell hb4 0).trans rfl
    have HJ4 := hid (And.intro hj (And.intro hd4 hbl4))
    have HGW := hid (And.intro hgw hgD)
    generalize hW5 : W4.putObj (W2.heap.size + 1) (.loop { R0 with state := .exhausted }) = W5 at *
    have HW5 := hid hW5
    rw [hR2]
    clear hj hb4 hd4 hbl4 hW5 hj0 HJ0 hrec hb3 hs3 k1 hl hll hR1 hR2 hR0 hgw hgD
    gi_wp2
    refine ⟨by simp, .inl ⟨_, _, rfl, run_takeDeferred HJ4.out.2.1, ?_⟩⟩
    refine ⟨_, results_tmp rfl _ _ _, some ⟨g, 0, none⟩, by rw [HLL.out]; rfl, ?_, ?_⟩
    · have ho := HJ4.out.1.out
      rw [List.take_of_length_le (by rw [HLL.out]; exact Nat.le_refl _)] at ho
      obtain ⟨cur, hcur⟩ := ho.block
      have e : (W5.putObj W2.heap.size (.deferred none)).heap[g]? = W4.heap[g]? := by
        rw [World.putObj_heap_other (by have := HGW.out; omega), ← HW5.out, World.putObj_heap_other (by have := HGW.out; omega)]
      exact (ho.same e).rowP
    · exact putObj_below HJ4.out.2.2 (by have := HGW.out; omega)

set_option maxRecDepth 20000 in
set_option maxHeartbeats 1000000 in
theorem range_none (fn : Nat) (T : Tr Int) (x y : Int) (w : World) (hT : Lies w T) (hs : T.sz ≤ 1000000) (hxy : min y (T.sz : Int) ≤ max x 0) :
    Calls Try.prog 23 #[.agg #[.func (.func fn) #[] #[], .pointer T.ad], .int .i64 x, .int .i64 y] w (Ranges w []) := by
  have HT := hid (hT.below (g_alloc (g_refl (a := w)) (.cells #[.func (.func fn) #[] #[], .pointer T.ad] 26 (0, 0))))
  obtain ⟨c, hc⟩ : ∃ c : Int, max x 0 = c := ⟨_, rfl⟩
  obtain ⟨d, hd⟩ : ∃ d : Int, min y (T.sz : Int) = d := ⟨_, rfl⟩
  have m1 : (if x < 0 then (0 : Int) else x) = c := by split <;> omega
  have m2 : (if (T.sz : Int) < y then (T.sz : Int) else y) = d := by split <;> omega
  have m3 : (if y < (T.sz : Int) then y else (T.sz : Int)) = d := by split <;> omega
  have q7 : d ≤ c := by omega
  have HA : Hid (Below w.heap.size w (w.alloc (.cells #[.func (.func fn) #[] #[], .pointer T.ad] 26 (0, 0)))) := hid (g_alloc g_refl _)
  clear hT hs hxy hc hd
  go_enter Try.func23, Try.ntmps23
  go_wp2_with fail
  refine (len_any fn T _ HT.out).mono ?_
  rintro _ w1 ⟨rfl, hb1⟩
  have HB := hid (g_trans HA.out hb1)
  clear hb1
  go_wp2
  go_ret
  exact ⟨none, rfl, fun h => absurd rfl h, HB.out⟩
/-- the pairs with indices from x up to y -/
def rng (x y : Int) (l : List (Int × Int)) : List (Int × Int) := (l.drop (max x 0).toNat).take (min y (l.length : Int) - max x 0).toNat
theorem range_any (fn : Nat) (T : Tr Int) (x y : Int) (w : World) (hT : Lies w T) (hs : T.sz ≤ 1000000) :
    Calls Try.prog 23 #[.agg #[.func (.func fn) #[] #[], .pointer T.ad], .int .i64 x, .int .i64 y] w (Ranges w (rng x y T.li)) := by
  by_cases h : min y (T.sz : Int) ≤ max x 0
  · have e : rng x y T.li = [] := by unfold rng; rw [T.li_len, show (min y (T.sz : Int) - max x 0).toNat = 0 by omega, List.take_zero]
    rw [e]; exact range_none fn T x y w hT hs h
  · unfold rng
    rw [T.li_len]
    exact range_some fn T x y _ _ w hT hs (by omega) (by omega) (by omega) (by omega)
end Go.Proofs.Ythkceffnfhdjhaa.DI
