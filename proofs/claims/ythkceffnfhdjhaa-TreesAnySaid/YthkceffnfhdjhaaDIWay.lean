/-
  THE WAY THROUGH A TREE (values: int): what the iterator turns, what a round keeps; THE CONTRACT of descend.
-/
import Derived.Test.YthkceffnfhdjhaaDIOps
import Derived.Maps.AppendAt
import Derived.Deep.AppendLies
import Derived.Laws.OwnMore
import Derived.OwnWalk
import Derived.Deep.Onto
namespace Go.Proofs.Ythkceffnfhdjhaa.DI
open Go.RowKit Go.Deep

/-- the iterator's steps: what lay stays, but for rows of type e from block B on -/
structure Itr (B : Nat) (e : TypeId) (w w' : World) : Prop where
  os : w'.os = w.os
  tape : w'.tape = w.tape
  output : w'.output = w.output
  size : w.heap.size ≤ w'.heap.size
  kept : ∀ (b : Nat) (o : Obj), w.heap[b]? = some o → (b < B ∨ ∀ arr z, o ≠ .cells arr e z) → w'.heap[b]? = some o
theorem Itr.refl (B : Nat) (e : TypeId) (w : World) : Itr B e w w := ⟨rfl, rfl, rfl, Nat.le_refl _, fun _ _ h _ => h⟩
theorem Itr.trans {B : Nat} {e : TypeId} {a b c : World} (h : Itr B e a b) (k : Itr B e b c) : Itr B e a c :=
  ⟨k.os.trans h.os, k.tape.trans h.tape, k.output.trans h.output, Nat.le_trans h.size k.size, fun i o ho hn => k.kept i o (h.kept i o ho hn) hn⟩
theorem Itr.alloc {B : Nat} {e : TypeId} {a b : World} (h : Itr B e a b) (o : Obj) : Itr B e a (b.alloc o) :=
  ⟨h.os, h.tape, h.output, Nat.le_trans h.size (by simp), fun i p hp hn => ((g_alloc (g_refl (a := b)) o).block i (Array.getElem?_eq_some_iff.1 (h.kept i p hp hn)).1).trans (h.kept i p hp hn)⟩
theorem Itr.drew {B : Nat} {e : TypeId} {a b : World} (h : Itr B e a b) : Itr B e a b.drew := ⟨h.os, h.tape, h.output, h.size, h.kept⟩
theorem Itr.grown {B : Nat} {e : TypeId} {a b c : World} {size n : Nat} {v : Value} {xs : List Value} (h : Itr B e a b) (ho : b.ownsRow B e size v n xs) (hg : b.grownBy c v.ownBlock) : Itr B e a c := by
  refine ⟨hg.os.trans h.os, hg.tape.trans h.tape, hg.output.trans h.output, Nat.le_trans h.size hg.size, fun i p hp hn => ?_⟩
  have h1 := h.kept i p hp hn
  have hlt := (Array.getElem?_eq_some_iff.1 h1).1
  rw [hg.block i hlt ?_]
  · exact h1
  · intro he
    obtain ⟨hb, -⟩ := ho.lt i he.symm
    rcases ho.2 with ⟨rfl, -⟩ | ⟨g, cap, cur, rfl, hb2, hgg, -⟩
    · cases he
    · have : g = i := by simpa [Value.ownBlock] using he.symm
      subst this
      rw [hgg] at h1; injection h1 with h1
      rcases hn with hn | hn
      · omega
      · exact hn cur _ h1.symm
theorem Itr.below {B : Nat} {e : TypeId} {a b : World} (h : Itr B e a b) (hB : B ≤ a.heap.size) : Below B a b :=
  ⟨h.os, h.tape, h.output, h.size, fun i hi => by
    have : i < a.heap.size := by omega
    rw [h.kept i a.heap[i] (Array.getElem?_eq_getElem this) (.inl hi), Array.getElem?_eq_getElem this]⟩
/-- a round's steps: rows of types other than e and e2 stay -/
def Bod (e e2 : TypeId) (w w' : World) : Prop := w.heap.size ≤ w'.heap.size ∧ ∀ (b : Nat) (arr : Array Value) (t : TypeId) (z : Nat × Nat), w.heap[b]? = some (.cells arr t z) → t ≠ e → t ≠ e2 → w'.heap[b]? = some (.cells arr t z)
theorem Bod.refl (e e2 : TypeId) (w : World) : Bod e e2 w w := ⟨Nat.le_refl _, fun _ _ _ _ h _ _ => h⟩
theorem Bod.trans {e e2 : TypeId} {a b c : World} (h : Bod e e2 a b) (k : Bod e e2 b c) : Bod e e2 a c :=
  ⟨Nat.le_trans h.1 k.1, fun i arr t z hi h1 h2 => k.2 i arr t z (h.2 i arr t z hi h1 h2) h1 h2⟩
theorem Lies.itr {B : Nat} {w w' : World} (h : Itr B 24 w w') : ∀ {T : Tr Int}, Lies w T → Lies w' T
  | .nil, _ => trivial
  | .node b _ _ _ _, ⟨h1, h2, h3⟩ => ⟨h.kept b _ h1 (.inr fun arr z e => by unfold obj at e; injection e with _ e2 _; exact absurd e2 (by decide)), Lies.itr h h2, Lies.itr h h3⟩
theorem Lies.bod {w w' : World} {e e2 : TypeId} (h : Bod e e2 w w') (n1 : 67 ≠ e) (n2 : 67 ≠ e2) : ∀ {T : Tr Int}, Lies w T → Lies w' T
  | .nil, _ => trivial
  | .node b _ _ _ _, ⟨h1, h2, h3⟩ => ⟨h.2 b _ _ _ h1 n1 n2, Lies.bod h n1 n2 h2, Lies.bod h n1 n2 h3⟩

/-- what is still to come behind a node on the way -/
def tailS : Tr Int → List (Int × Int)
  | .nil => []
  | .node _ _ k v r => (k, v) :: r.li
def seqS (st : List (Tr Int)) : List (Int × Int) := st.reverse.flatMap tailS
theorem seqS_nil : seqS [] = [] := rfl
theorem seqS_snoc (st : List (Tr Int)) (s : Tr Int) : seqS (st ++ [s]) = tailS s ++ seqS st := by simp [seqS]
theorem drop_l {b : Nat} {l r : Tr Int} {k : Int} {v : Int} {i : Nat} (h : i ≤ l.sz) : (Tr.node b l k v r).li.drop i = l.li.drop i ++ ((k, v) :: r.li) := by
  rw [Tr.li_node, List.drop_append_of_le_length (by rw [Tr.li_len]; exact h)]
theorem drop_r {b : Nat} {l r : Tr Int} {k : Int} {v : Int} {i : Nat} (h : l.sz < i) : (Tr.node b l k v r).li.drop i = r.li.drop (i - l.sz - 1) := by
  rw [Tr.li_node, ← Tr.li_len l] at *
  obtain ⟨j, rfl⟩ : ∃ j, i = l.li.length + (j + 1) := ⟨i - l.li.length - 1, by omega⟩
  rw [List.drop_length_add_append, List.drop_succ_cons, show l.li.length + (j + 1) - l.li.length - 1 = j by omega]

/-- the slice v holds the nodes st -/
def Rw (w : World) (B : Nat) (v : Value) (st : List (Tr Int)) : Prop :=
  w.ownsRow B 24 1 v st.length (st.map fun s => .pointer s.ad) ∧ (∀ s ∈ st, Lies w s) ∧ ∀ s ∈ st, 0 < s.sz
theorem Rw.nil (w : World) (B : Nat) : Rw w B (.slice none 0 0) [] := ⟨World.ownsRow_nil _ _ _ _, (fun _ h => nomatch h), (fun _ h => nomatch h)⟩
theorem infoN : (Try.prog.info? 24).map (fun i => (i.zero, i.size, i.bytes)) = some (some (.pointer none), 1, 8) := by kernel_rfl

set_option maxRecDepth 20000 in
set_option maxHeartbeats 2000000 in
theorem descend_any (T : Tr Int) (i : Nat) (v : Value) (st : List (Tr Int)) (B : Nat) (w : World) (hT : Lies w T) (hs : T.sz ≤ 1000000) (hi : i ≤ 1000000) (hst : st.length + T.sz ≤ 2000000) (hR : Rw w B v st) (hB : B ≤ w.heap.size) :
    Calls Try.prog 61 #[.pointer T.ad, .int .i64 (i : Nat), v] w fun e w' =>
      ∃ v' st', e = .returned v' ∧ Rw w' B v' st' ∧ seqS st' = T.li.drop i ++ seqS st ∧ st'.length ≤ st.length + T.sz ∧ Itr B 24 w w' := by
  obtain ⟨i0, hi0, hz0, hz1, hz2⟩ := info_parts infoN
  have HT := hid hT
  have HS := hid hs
  have HI := hid hi
  have HST := hid hst
  have HR := hid hR
  have HB := hid hB
  clear hT hs hi hst hR hB
  go_enter Try.func61, Try.ntmps61
  go_wp2_with fail
  go_loopg [0, 1, 2] T.sz (fun n p x u wr => ∃ (S : Tr Int) (j : Nat) (su : List (Tr Int)), n = S.sz ∧ p = .pointer S.ad ∧ x = .int .i64 (j : Nat) ∧ j ≤ 1000000 ∧ S.sz ≤ 1000000 ∧ su.length + S.sz ≤ st.length + T.sz ∧ S.li.drop j ++ seqS su = T.li.drop i ++ seqS st ∧ Lies wr S ∧ Rw wr B u su ∧ Itr B 24 w wr)
  case atStart => exact ⟨T, i, st, rfl, rfl, rfl, HI.out, HS.out, Nat.le_refl _, rfl, HT.out, HR.out, Itr.refl _ _ _⟩
  case round =>
    obtain ⟨S, j, su, hn, rfl, rfl, hj, hz, hl, hq, hS, hR, hw⟩ := hrel
    have HN := hid hn
    have HQ := hid hq
    have HW := hid hw
    have HL := hid hl
    have HRR := hid hR
    cases S with
    | nil =>
      clear hn hq hw hl hj hz hS HT HR hR
      show Code.wp _ _ _ { tmps := #[.pointer none, _, _, _, _, _, _, _, _, _, _, _, _, _, _, _, _, _, _, _, _, _, _, _, _, _, _, _, _, _, _, _, _, _, _], defers := _ } _
      go_wp2
      go_ret
      exact ⟨_, su, rfl, HRR.out, by have h := HQ.out; rwa [Tr.li_nil, List.drop_nil, List.nil_append] at h, by have h := HL.out; rw [Tr.sz_nil] at h; omega, HW.out⟩
    | node b l k0 v0 r =>
      obtain ⟨s0, s1, s2, s3, s4, s5⟩ := hS.six
      have HSN := hid hS
      have HLl := hid hS.left
      have HLr := hid hS.right
      rw [Tr.sz_node] at hz hl
      have HZ := hid hz
      have HJ := hid hj
      have p2 : (0 : Int) ≤ (l.sz : Int) := by omega
      have p3 : (l.sz : Int) ≤ 1000000 := by omega
      have p4 : (0 : Int) ≤ (j : Int) := by omega
      have p5 : (j : Int) ≤ 1000000 := by omega
      clear hn hl hq hS hw hz hj HT HR s0 s1 s4 s5
      by_cases hc : j ≤ l.sz
      · have c1 : (j : Int) ≤ (l.sz : Int) := by omega
        have HC := hid hc
        clear hc
        show Code.wp _ _ _ { tmps := #[.pointer (some ⟨b, 0, none⟩), _, _, _, _, _, _, _, _, _, _, _, _, _, _, _, _, _, _, _, _, _, _, _, _, _, _, _, _, _, _, _, _, _, _], defers := _ } _
        go_wp2_with fail
        refine (count_any l _ HLl.out).mono ?_
        rintro _ wz ⟨rfl, rfl⟩
        have hal := HRR.out.1.alloc (.cells #[.pointer (some ⟨b, 0, none⟩)] 24)
        have hlen : su.length + 1 ≤ 3000000 := by have h1 := HL.out; have h2 := HST.out; rw [Tr.sz_node] at h1; omega
        have hBz : B ≤ wz.heap.size := by have h1 := HW.out.size; have h2 := HB.out; omega
        have HAL := hid hal
        have HLEN := hid hlen
        have HBZ := hid hBz
        clear hal hlen hBz s2 s3 hR
        go_wp2_with (at_builtin; refine wpList_append_own_at (P := Try.prog) _ rfl _ _ 99 rfl B 24 i0 (.pointer none) 1 8 Try.underlying99 hi0 hz0 hz1 hz2 rfl (by decide) _ _ _ rfl HAL.out ⟨wz.heap.size, 0, none⟩ 1 1 [.pointer (some ⟨b, 0, none⟩)] rfl rfl (cell_one_new _ _ _) (by simp [Value.oneCell']) (by have := HLEN.out; unfold maxLen; omega) (by have := HLEN.out; omega) (by have := HBZ.out; simp; omega) ?_)
        intro v' w1 ho hg _ _
        have hit : Itr B 24 wz w1 := ((Itr.refl _ _ _).alloc _).grown HAL.out hg
        obtain ⟨s0, s1, s2, s3, s4, s5⟩ := (HSN.out.itr hit).six
        have HO := hid ho
        have HIT := hid hit
        clear ho hg hit s0 s1 s3 s4 s5
        go_wp2
        go_roundg l.sz
        case measure => rw [HN.out, Tr.sz_node]; omega
        case rel =>
          refine ⟨l, j, su ++ [.node b l k0 v0 r], rfl, rfl, rfl, HJ.out, by have := HZ.out; omega, by have := HL.out; rw [Tr.sz_node] at this; rw [List.length_append, List.length_singleton]; omega, ?_, HLl.out.itr HIT.out, ⟨?_, ?_, ?_⟩, HW.out.trans HIT.out⟩
          · rw [← HQ.out, drop_l HC.out, seqS_snoc, List.append_assoc]; rfl
          · rw [List.length_append, List.map_append]; exact HO.out
          · intro s hs
            rcases List.mem_append.1 hs with hs | hs
            · exact (HRR.out.2.1 s hs).itr HIT.out
            · rw [List.mem_singleton.1 hs]; exact HSN.out.itr HIT.out
          · intro s hs
            rcases List.mem_append.1 hs with hs | hs
            · exact HRR.out.2.2 s hs
            · rw [List.mem_singleton.1 hs, Tr.sz_node]; omega
      · have c1 : ¬ (j : Int) ≤ (l.sz : Int) := by omega
        have c2 : (j : Int) - ((l.sz : Int) + 1) = ((j - l.sz - 1 : Nat) : Int) := by omega
        have HC := hid (show l.sz < j by omega)
        have HC2 := hid c2
        clear hc c2 hR s2
        show Code.wp _ _ _ { tmps := #[.pointer (some ⟨b, 0, none⟩), _, _, _, _, _, _, _, _, _, _, _, _, _, _, _, _, _, _, _, _, _, _, _, _, _, _, _, _, _, _, _, _, _, _], defers := _ } _
        have s2 := HSN.out.six.2.2.1
        go_wp2_with fail
        refine (count_any l _ HLl.out).mono ?_
        rintro _ wz ⟨rfl, rfl⟩
        go_wp2
        go_roundg r.sz
        case measure => rw [HN.out, Tr.sz_node]; omega
        case rel => exact ⟨r, j - l.sz - 1, su, rfl, rfl, congrArg _ HC2.out, by have := HJ.out; omega, by have := HZ.out; omega, by have := HL.out; rw [Tr.sz_node] at this; omega, by rw [← HQ.out, drop_r HC.out], HLr.out, HRR.out, HW.out⟩
end Go.Proofs.Ythkceffnfhdjhaa.DI
