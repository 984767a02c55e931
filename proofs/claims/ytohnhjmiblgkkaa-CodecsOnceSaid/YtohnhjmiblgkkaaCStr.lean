/-
  append(own row of bytes, a string...); THE CONTRACT of a Writer's Text.
-/
import Derived.Test.YtohnhjmiblgkkaaCWr
import Derived.Deep.AppendSrc
namespace Go.Proofs.Ytohnhjmiblgkkaa
open Go.RowKit

theorem setCell_heap (w : World) (g o : Nat) (v : Value) {cur : Array Value} {e : TypeId} {fr : Nat × Nat} (h : w.heap[g]? = some (.cells cur e fr)) : (w.setCell ⟨g, o, none⟩ v).heap[g]? = some (.cells (cur.setIfInBounds o v) e fr) := by
  simp [World.setCell, Array.getElem?_modify, h]
theorem setCells_heap (g : Nat) (e : TypeId) (fr : Nat × Nat) : ∀ (vs : List Value) (o : Nat) (w : World) (cur : Array Value), w.heap[g]? = some (.cells cur e fr) → o + vs.length ≤ cur.size →
    ∃ cur', (w.setCells g o vs).heap[g]? = some (.cells cur' e fr) ∧ cur'.size = cur.size ∧ cur'.toList.take (o + vs.length) = cur.toList.take o ++ vs
  | [], o, w, cur, h, _ => ⟨cur, h, rfl, by simp⟩
  | v :: r, o, w, cur, h, hl => by
    rw [List.length_cons] at hl
    obtain ⟨cur', h1, h2, h3⟩ := setCells_heap g e fr r (o + 1) (w.setCell ⟨g, o, none⟩ v) _ (setCell_heap w g o v h) (by simp; omega)
    refine ⟨cur', h1, by simpa using h2, ?_⟩
    rw [List.length_cons, show o + (r.length + 1) = o + 1 + r.length by omega, h3]
    have ho : o < cur.size := by omega
    have : (cur.setIfInBounds o v).toList.take (o + 1) = cur.toList.take o ++ [v] := by
      rw [Array.toList_setIfInBounds, List.take_succ_eq_append_getElem (by simp; omega), List.getElem_set_self, List.take_set_of_le (Nat.le_refl _)]
    rw [this, List.append_assoc]
    rfl
theorem setCells_other (g : Nat) : ∀ (vs : List Value) (o : Nat) (w : World) (k : Nat), k ≠ g → (w.setCells g o vs).heap[k]? = w.heap[k]?
  | [], _, _, _, _ => rfl
  | v :: r, o, w, k, h => by
    rw [World.setCells, setCells_other g r (o + 1) _ k h]
    exact Below.heap_setCell _ _ _ _ h
theorem setCells_same (g : Nat) : ∀ (vs : List Value) (o : Nat) (w : World), (w.setCells g o vs).os = w.os ∧ (w.setCells g o vs).tape = w.tape ∧ (w.setCells g o vs).output = w.output ∧ (w.setCells g o vs).heap.size = w.heap.size
  | [], _, _ => ⟨rfl, rfl, rfl, rfl⟩
  | v :: r, o, w => by
    rw [World.setCells]
    have := setCells_same g r (o + 1) (w.setCell ⟨g, o, none⟩ v)
    exact ⟨this.1, this.2.1, this.2.2.1, this.2.2.2.trans (by simp [World.setCell])⟩

theorem byteCells_bc (s : ByteArray) : byteCells s = bc s.data.toList := rfl
/-- append(v, s...), v a row of bytes of the call's own that is not nil -/
theorem run_app_str (w : World) (base : Nat) (ty : TypeId) (g cap n : Nat) (xs : List Value) (hown : w.ownsRow base 5 1 (.slice (some ⟨g, 0, none⟩) n cap) n xs) (s : ByteArray) (h63 : n + s.size ≤ 4000000) (hbase : base ≤ w.heap.size) :
    ∃ g' cap' w', (Builtin.append_ #[25, 9] ty #[.slice (some ⟨g, 0, none⟩) n cap, .string s]).run Try.prog w = .ok (.slice (some ⟨g', 0, none⟩) (n + s.size) cap') w' ∧ w'.ownsRow base 5 1 (.slice (some ⟨g', 0, none⟩) (n + s.size) cap') (n + s.size) (xs ++ byteCells s) ∧ w.grownBy w' (some g) ∧ (g' = g ∨ g' = w.heap.size) := by
  obtain ⟨i0, hi, hz0, hz1, hz2⟩ := info_parts infoU8
  have hsrc := Src.ofString (P := Try.prog) w (tx := 9) Try.underlying9 s
  have hlen : (xs ++ byteCells s).length = (n + s.size) * 1 := by rw [List.length_append, hown.1, byteCells_length, Nat.mul_one, Nat.mul_one]
  rcases hown.2 with ⟨h0, _⟩ | ⟨g0, cap0, cur, h0, hbg, hg, hnc, hcm, hcs, htake⟩
  · cases h0
  · injection h0 with h1 h2 h3
    injection h1 with h1
    injection h1 with h1
    subst h1
    subst h3
    rw [Nat.mul_one] at hcs htake
    by_cases hroom : n + s.size ≤ cap
    · have hr := run_append_room_src (P := Try.prog) w 25 9 ty 5 i0 Try.underlying25 hi g 0 n cap (.string s) s.size (byteCells s) (by rw [hz1]; exact hsrc) hroom
        (fun j hj => by
          rw [byteCells_length] at hj
          rw [cell_of_row w g _ cur _ _ hg]
          have h : n * i0.size + j < cur.size := by rw [hz1]; omega
          simp [h])
        (fun j hj => by
          simp [World.frozen?, hg])
      rw [hz1, Nat.mul_one, Nat.zero_add] at hr
      obtain ⟨cur', e1, e2, e3⟩ := setCells_heap g 5 (0, 0) (byteCells s) n w cur hg (by rw [byteCells_length]; omega)
      have hs := setCells_same g (byteCells s) n w
      refine ⟨g, cap, _, hr, ⟨hlen, .inr ⟨g, cap, cur', rfl, hbg, e1, hroom, hcm, by rw [e2, hcs, Nat.mul_one], ?_⟩⟩, ⟨hs.1, hs.2.1, hs.2.2.1, Nat.le_of_eq hs.2.2.2.symm, fun k _ hk => setCells_other g _ _ _ k (fun e => hk (by rw [e]))⟩, .inl rfl⟩
      rw [Nat.mul_one]
      rw [byteCells_length, htake] at e3
      exact e3
    · have holds : ∀ j u, xs[j]? = some u → w.cell? ((⟨g, 0, none⟩ : Addr).add j) = some u := hown.cells (g := g) rfl
      have hr := run_append_grow_src (P := Try.prog) w 25 9 ty 5 i0 (.int .u8 0) Try.underlying25 hi hz0 (some ⟨g, 0, none⟩) n cap xs
        (by rw [hz1]; exact run_firstCells_some w.drew 1 n ⟨g, 0, none⟩ n cap xs hown.1 (by simpa using holds)) (.string s) s.size (byteCells s) (by rw [hz1]; exact hsrc) (by omega) (by omega) (growslice_fits (by omega) (by rw [hz2]; omega))
      have hge := grownCap_ge w (n + s.size) cap 5
      have hcm2 : grownCap w (n + s.size) cap 5 ≤ maxLen := grownCap_le_maxLen w (n + s.size) cap 5 (by unfold maxLen; omega)
      refine ⟨w.heap.size, _, _, hr, ⟨hlen, .inr ⟨w.heap.size, _, _, rfl, hbase, heap_alloc_new w.drew _, hge, hcm2, ?_, ?_⟩⟩, ⟨rfl, rfl, rfl, by simp, fun k hk _ => Below.heap_alloc w.drew _ k hk⟩, .inr rfl⟩
      · rw [Nat.mul_one, Array.size_append, size_zeroCells, List.size_toArray, hlen]
        have : (Value.int .u8 0).cells.size = 1 := rfl
        rw [this]
        omega
      · rw [Array.toList_append, ← hlen]
        exact List.take_left
theorem wp_app_str {ops : Array Oper} {rest : List Oper} {o : Oper} {a : Act} {w : World} {Q : Exit → Act → World → Prop} (s x : Operand) (hgd : o.guard = none)
    (ho : o.op = .call { callee := .builtin .append, args := #[s, x], argTypes := #[25, 9] })
    (base : Nat) (g cap n : Nat) (xs : List Value) (t : ByteArray) (hs : a.eval s = .slice (some ⟨g, 0, none⟩) n cap) (hx : a.eval x = .string t) (hown : w.ownsRow base 5 1 (.slice (some ⟨g, 0, none⟩) n cap) n xs)
    (h63 : n + t.size ≤ 4000000) (hbase : base ≤ w.heap.size)
    (h : ∀ g' cap' w', w'.ownsRow base 5 1 (.slice (some ⟨g', 0, none⟩) (n + t.size) cap') (n + t.size) (xs ++ byteCells t) → w.grownBy w' (some g) → (g' = g ∨ g' = w.heap.size) → wpList Try.prog ops Q rest (a.put o.dst (.slice (some ⟨g', 0, none⟩) (n + t.size) cap')) w') : wpList Try.prog ops Q (o :: rest) a w := by
  obtain ⟨g', cap', w', hr, h2, h3, h4⟩ := run_app_str w base o.type g cap n xs hown t h63 hbase
  refine wpList_plain hgd fun K hK => ?_
  unfold Oper.wp execOp
  simp only [ho, resolve, invoke, builtin, Sem.run_bind, Sem.run_pure, Result.andThen_ok, List.map_toArray, List.map_cons, List.map_nil, hs, hx, hr]
  exact hK _ _ (h g' cap' w' h2 h3 h4)

theorem numF_len : ∀ (k n : Nat), 1 ≤ (numF k n).length ∧ (numF k n).length ≤ k + 1
  | 0, n => ⟨Nat.le_refl _, Nat.le_refl _⟩
  | k + 1, n => by
    rw [numF]
    split
    · exact ⟨Nat.le_refl _, by simp⟩
    · have := numF_len k (n / 128)
      rw [List.length_cons]
      omega
theorem num_len (n : Nat) : 1 ≤ (num n).length ∧ (num n).length ≤ 10 := numF_len 9 n
set_option maxRecDepth 20000 in
theorem wtext_any (r base : Nat) (v : Value) (L : List UInt8) (s : ByteArray) (hs : s.size ≤ 1000000) (w : World) (h : WS w r base v L) (hl : L.length ≤ 1000000) (hb : base ≤ w.heap.size) :
    Calls Try.prog 23 #[.pointer (some ⟨r, 0, none⟩), .string s] w (WPost w r base v L (tform s)) := by
  have H := hid (And.intro h (And.intro hl (And.intro hb hs)))
  have hs1 : (s.size : Int) ≤ 1000000 := by omega
  have hs0 : (0 : Int) ≤ (s.size : Int) := by omega
  clear h hl hb hs
  go_enter Try.func23, Try.ntmps23
  go_wp2_with fail
  refine (wnumber_any r base v L s.size (by omega) w H.out.1 H.out.2.1 H.out.2.2.1).mono ?_
  rintro e w1 ⟨rfl, v1, hw1, hc1⟩
  have hpos : 0 < (L ++ num s.size).length := by have := (num_len s.size).1; rw [List.length_append]; omega
  have hmax : (L ++ num s.size).length ≤ 1000010 := by have := (num_len s.size).2; have := H.out.2.1; rw [List.length_append]; omega
  obtain ⟨g, cap, rfl, hbg, hcap⟩ := own_shape hw1.own (fun e => by
    rcases hw1.own.2 with ⟨_, hn⟩ | ⟨g, cap, cur, he, _⟩
    · omega
    · rw [e] at he; cases he)
  have HW := hid (And.intro hw1 (And.intro hc1 (And.intro hpos hmax)))
  have c0 := hw1.c0
  have f0 := hw1.f
  have hgr : g ≠ r := hw1.far g rfl
  have hgl : g < w1.heap.size := (World.ownsRow.lt hw1.own g rfl).2
  clear hw1 hc1 hpos hmax hbg hcap
  generalize hn : (L ++ num s.size).length = n at *
  have HN := hid hn
  clear hn
  go_wp2_with (at_builtin; refine wp_app_str _ _ (by rfl) (by rfl) base g cap n (bc (L ++ num s.size)) s (by rfl) (by rfl) (by have := HW.out.1.own; rw [HN.out] at this; exact this) (by have := HW.out.2.2.2; have := H.out.2.2.2; omega) (by have := H.out.2.2.1; have := HW.out.2.1.size; omega) ?_; intro g2 cap2 w2 hown2 hgrow2 hat2; have HO := hid (And.intro hown2 (And.intro hgrow2 hat2)); have k0 := hgrow2.cell c0 (fun e => hgr (by injection e with e; exact e.symm)); have k1 := (hgrow2.frozen_far ⟨r, 0, none⟩ HW.out.1.lt (fun e => hgr (by injection e with e; exact e.symm))).trans f0; clear hown2 hgrow2 hat2)
  go_end0
  have hO := HO.out
  rw [← HN.out] at hO
  have hq := WS.app (M := s.data.toList) HW.out.1 (v' := .slice (some ⟨g2, 0, none⟩) ((L ++ num s.size).length + s.size) cap2) (by rw [show s.data.toList.length = s.size by simp]; exact hO.1) hO.2.1 (by
    rcases hO.2.2 with h | h
    · left; rw [h]; rfl
    · right; rw [h]; rfl)
  rw [HN.out] at hq
  rw [List.append_assoc] at hq
  exact ⟨rfl, _, hq.1, HW.out.2.1.trans hq.2⟩
end Go.Proofs.Ytohnhjmiblgkkaa
