/-
  THE STATE of layer 5's plays: a map in a box, its list, the maps and lists that were kept; what each step leaves of it.
-/
import Derived.Test.YthkceffnfhdjhaaDSame
namespace Go.Proofs.Ythkceffnfhdjhaa
open Go.RowKit Go.Deep
open DI (MapL Lies Itr Bod)

/-- a call as plain data -/
def OIn (w : World) (A : Option Addr) (L : List (Nat × Int)) : Prop :=
  L ≠ [] → ∃ g o, A = some ⟨g, o, none⟩ ∧ g < w.heap.size ∧ ∀ i, (h : i < L.length) → w.cell? ⟨g, o + i * 2, none⟩ = some (.int .u8 (L[i].1 : Nat)) ∧ w.cell? ⟨g, o + i * 2 + 1, none⟩ = some (.int .i16 L[i].2) ∧ L[i].1 < 256 ∧ -32768 ≤ L[i].2 ∧ L[i].2 ≤ 32767
theorem OIn.below {w w' : World} {A : Option Addr} {L : List (Nat × Int)} (h : OIn w A L) (hb : Below w.heap.size w w') : OIn w' A L := fun hl => by
  obtain ⟨g, o, e, h1, h2⟩ := h hl
  refine ⟨g, o, e, Nat.lt_of_lt_of_le h1 hb.size, fun i hi => ?_⟩
  obtain ⟨a, b, c⟩ := h2 i hi
  exact ⟨((bcell hb).1 g _ h1).trans a, ((bcell hb).1 g _ h1).trans b, c⟩
def stepO (l : List (Int × Int)) (p : (Nat × Int) × Nat) : List (Int × Int) := if p.1.1 % 3 < 2 then Tr.putL id l p.1.2 p.2 else Tr.dropL id l p.1.2
/-- the list behind so many calls -/
def runO (L : List (Nat × Int)) (i : Nat) : List (Int × Int) := (L.zipIdx.take i).foldl stepO []
theorem runO_zero (L : List (Nat × Int)) : runO L 0 = [] := rfl
theorem runO_succ {L : List (Nat × Int)} {i : Nat} (h : i < L.length) : runO L (i + 1) = stepO (runO L i) (L[i], i) := by
  unfold runO
  rw [List.take_succ_eq_append_getElem (by simpa using h), List.foldl_append]
  simp
theorem stepO_len (l : List (Int × Int)) (p : (Nat × Int) × Nat) : (stepO l p).length ≤ l.length + 1 := by
  unfold stepO; split
  · exact Tr.put_len l
  · exact Nat.le_succ_of_le (Tr.drop_len l)
theorem runO_len (L : List (Nat × Int)) : ∀ i, i ≤ L.length → (runO L i).length ≤ i
  | 0, _ => Nat.le_refl _
  | i + 1, h => by
    rw [runO_succ (by omega)]
    have h1 := runO_len L i (by omega)
    have h2 := stepO_len (runO L i) (L[i], i)
    omega
theorem runO_asc (L : List (Nat × Int)) : ∀ i, i ≤ L.length → Tr.Asc id (runO L i)
  | 0, _ => List.Pairwise.nil
  | i + 1, h => by
    rw [runO_succ (by omega)]
    unfold stepO; split
    · exact Tr.put_asc (runO_asc L i (by omega))
    · exact Tr.drop_asc (runO_asc L i (by omega))

/-! ### what the turn of a row of one type leaves -/
theorem lies_itr {B : Nat} {e : TypeId} {w w' : World} (h : Itr B e w w') (ne : 67 ≠ e) : ∀ {T : Tr Int}, Lies w T → Lies w' T
  | .nil, _ => trivial
  | .node b _ _ _ _, ⟨h1, h2, h3⟩ => ⟨h.kept b _ h1 (.inr fun arr z he => by unfold DI.obj at he; injection he with _ e2 _; exact ne e2), lies_itr h ne h2, lies_itr h ne h3⟩
theorem map_itr {B : Nat} {e : TypeId} {w w' : World} {f : Int → Int} {T : Tr Int} {l : List (Int × Int)} (m : MapL f w T l) (h : Itr B e w w') (ne : 67 ≠ e) : MapL f w' T l := ⟨lies_itr h ne m.lies, m.bal, m.li, m.asc⟩
theorem row_itr {B : Nat} {e : TypeId} {w w' : World} {A : Option Addr} {l : List (Int × Int)} (r : RowQ w A l) (h : Itr B e w w') (ne : 47 ≠ e) : RowQ w' A l := fun hl => by
  obtain ⟨g, arr, e1, hg, hx⟩ := r hl
  exact ⟨g, arr, e1, h.kept g _ hg (.inr fun a z he => by injection he with _ e2 _; exact ne e2), hx⟩
theorem own_itr {B B2 size n : Nat} {e e2 : TypeId} {w w' : World} {v : Value} {xs : List Value} (r : w.ownsRow B2 e2 size v n xs) (h : Itr B e w w') (ne : e2 ≠ e) : w'.ownsRow B2 e2 size v n xs := by
  refine ⟨r.1, ?_⟩
  rcases r.2 with h1 | ⟨g, cap, cur, e1, hb, hg, rest⟩
  · exact .inl h1
  · exact .inr ⟨g, cap, cur, e1, hb, h.kept g _ hg (.inr fun a z he => by injection he with _ e2 _; exact ne e2), rest⟩
theorem own_below {B size n : Nat} {e : TypeId} {w w' : World} {v : Value} {xs : List Value} (r : w.ownsRow B e size v n xs) (h : Below w.heap.size w w') : w'.ownsRow B e size v n xs := by
  refine ⟨r.1, ?_⟩
  rcases r.2 with h1 | ⟨g, cap, cur, e1, hb, hg, rest⟩
  · exact .inl h1
  · exact .inr ⟨g, cap, cur, e1, hb, (h.block g (Array.getElem?_eq_some_iff.1 hg).1).trans hg, rest⟩
theorem row_bod {w w' : World} {A : Option Addr} {l : List (Int × Int)} {e : TypeId} (r : RowQ w A l) (h : Bod e e w w') (ne : 47 ≠ e) : RowQ w' A l := fun hl => by
  obtain ⟨g, arr, e1, hg, hx⟩ := r hl
  exact ⟨g, arr, e1, h.2 g _ _ _ hg ne ne, hx⟩
theorem map_bod {w w' : World} {f : Int → Int} {T : Tr Int} {l : List (Int × Int)} {e : TypeId} (m : MapL f w T l) (h : Bod e e w w') (ne : 67 ≠ e) : MapL f w' T l := ⟨m.lies.bod h ne ne, m.bal, m.li, m.asc⟩

abbrev MT : TypeId := 26
def encM (e : Tr Int × List (Int × Int)) : List Value := [oF, .pointer e.1.ad]
def encL (e : (Option Addr × Nat) × List (Int × Int)) : Value := .slice e.1.1 e.2.length e.1.2
/-- the state of a play -/
structure PS (w W : World) (q : Nat) (T : Tr Int) (lm : List (Int × Int)) (A : Option Addr) (lr : List (Int × Int)) (vm : Value) (ma : List (Tr Int × List (Int × Int))) (vl : Value) (lb : List ((Option Addr × Nat) × List (Int × Int))) : Prop where
  box : W.heap[q]? = some (.cells #[oF, .pointer T.ad] 26 (0, 0))
  map : MapL id W T lm
  row : RowQ W A lr
  maps : W.ownsRow (q + 1) 26 2 vm ma.length (ma.flatMap encM)
  lists : W.ownsRow (q + 1) 28 1 vl lb.length (lb.map encL)
  eachM : ∀ e ∈ ma, MapL id W e.1 e.2
  eachL : ∀ e ∈ lb, RowQ W e.1.1 e.2
  bel : Below w.heap.size w W
  qw : w.heap.size ≤ q
section
variable {w W W' : World} {q : Nat} {T : Tr Int} {lm lr : List (Int × Int)} {A : Option Addr} {vm vl : Value} {ma : List (Tr Int × List (Int × Int))} {lb : List ((Option Addr × Nat) × List (Int × Int))}
theorem PS.below (h : PS w W q T lm A lr vm ma vl lb) (hb : Below W.heap.size W W') : PS w W' q T lm A lr vm ma vl lb :=
  ⟨(hb.block q (Array.getElem?_eq_some_iff.1 h.box).1).trans h.box, h.map.below hb, h.row.below hb, own_below h.maps hb, own_below h.lists hb, fun e he => (h.eachM e he).below hb, fun e he => (h.eachL e he).below hb, g_trans h.bel hb, h.qw⟩
theorem PS.lt (h : PS w W q T lm A lr vm ma vl lb) : q < W.heap.size := (Array.getElem?_eq_some_iff.1 h.box).1
/-- the map is stored anew -/
theorem PS.store {T' : Tr Int} {l' : List (Int × Int)} (h : PS w W q T lm A lr vm ma vl lb) (hm : MapL id W T' l') :
    PS w ((W.setCell ⟨q, 0, none⟩ oF).setCell ⟨q, 1, none⟩ (.pointer T'.ad)) q T' l' A lr vm ma vl lb := by
  have hb := DI.set_two h.box oF (.pointer T'.ad)
  have hq : vm.ownBlock = none ∨ vm.ownBlock ≠ some q := by
    cases hv : vm.ownBlock with
    | none => exact .inl rfl
    | some g => exact .inr fun e => by have := (h.maps.lt g hv).1; injection e with e; omega
  refine ⟨?_, map_bod hm hb (by decide), row_bod h.row hb (by decide), ?_, ?_, fun e he => map_bod (h.eachM e he) hb (by decide), fun e he => row_bod (h.eachL e he) hb (by decide), g_set (g_set h.bel h.qw _) h.qw _, h.qw⟩
  · have h2 : (W.setCell ⟨q, 0, none⟩ oF).heap[q]? = some (.cells (#[oF, .pointer T.ad].setIfInBounds 0 oF) 26 (0, 0)) := heap_setCell_same W q 0 _ _ oF h.box
    exact heap_setCell_same _ q 1 _ _ _ h2
  · have g1 : W.grownBy (W.setCell ⟨q, 0, none⟩ oF) (some q) := grownBy_setCell' W q oF
    have k1 := h.maps.kept g1 hq
    have g2 : (W.setCell ⟨q, 0, none⟩ oF).grownBy ((W.setCell ⟨q, 0, none⟩ oF).setCell ⟨q, 1, none⟩ (.pointer T'.ad)) (some q) :=
      ⟨rfl, rfl, rfl, by simp, fun k _ hk => heap_setCell_other _ ⟨q, 1, none⟩ k _ (fun e => hk (by rw [e]))⟩
    exact k1.kept g2 hq
  · refine ⟨h.lists.1, ?_⟩
    rcases h.lists.2 with h1 | ⟨g, cap, cur, e1, hg, hc, rest⟩
    · exact .inl h1
    · exact .inr ⟨g, cap, cur, e1, hg, hb.2 g cur _ _ hc (by decide) (by decide), rest⟩
/-- the list is another one -/
theorem PS.row' {A' : Option Addr} {l' : List (Int × Int)} (h : PS w W q T lm A lr vm ma vl lb) (hr : RowQ W A' l') : PS w W q T lm A' l' vm ma vl lb := ⟨h.box, h.map, hr, h.maps, h.lists, h.eachM, h.eachL, h.bel, h.qw⟩
/-- a map is kept -/
theorem PS.keepM {v' : Value} {o : Obj} (h : PS w W q T lm A lr vm ma vl lb) (ho : W'.ownsRow (q + 1) 26 2 v' (ma.length + 1) (ma.flatMap encM ++ encM (T, lm))) (hg : (W.alloc o).grownBy W' vm.ownBlock) :
    PS w W' q T lm A lr v' (ma ++ [(T, lm)]) vl lb := by
  have hi : Itr (q + 1) 26 W W' := ((Itr.refl _ _ _).alloc o).grown (h.maps.alloc o) hg
  refine ⟨hi.kept q _ h.box (.inl (Nat.lt_succ_self _)), map_itr h.map hi (by decide), row_itr h.row hi (by decide), ?_, own_itr h.lists hi (by decide), fun e he => ?_, fun e he => row_itr (h.eachL e he) hi (by decide), h.bel.trans (hi.belowN (Nat.le_succ_of_le h.qw) h.bel.size), h.qw⟩
  · rw [List.length_append, List.flatMap_append, List.flatMap_singleton]; exact ho
  · rcases List.mem_append.1 he with he | he
    · exact map_itr (h.eachM e he) hi (by decide)
    · rw [List.mem_singleton.1 he]; exact map_itr h.map hi (by decide)
/-- a list is kept -/
theorem PS.keepL {v' : Value} {o : Obj} {c : Nat} (h : PS w W q T lm A lr vm ma vl lb) (ho : W'.ownsRow (q + 1) 28 1 v' (lb.length + 1) (lb.map encL ++ [encL ((A, c), lr)])) (hg : (W.alloc o).grownBy W' vl.ownBlock) :
    PS w W' q T lm A lr vm ma v' (lb ++ [((A, c), lr)]) := by
  have hi : Itr (q + 1) 28 W W' := ((Itr.refl _ _ _).alloc o).grown (h.lists.alloc o) hg
  refine ⟨hi.kept q _ h.box (.inl (Nat.lt_succ_self _)), map_itr h.map hi (by decide), row_itr h.row hi (by decide), own_itr h.maps hi (by decide), ?_, fun e he => map_itr (h.eachM e he) hi (by decide), fun e he => ?_, h.bel.trans (hi.belowN (Nat.le_succ_of_le h.qw) h.bel.size), h.qw⟩
  · rw [List.length_append, List.map_append]; exact ho
  · rcases List.mem_append.1 he with he | he
    · exact row_itr (h.eachL e he) hi (by decide)
    · rw [List.mem_singleton.1 he]; exact row_itr h.row hi (by decide)
theorem PS.cells (h : PS w W q T lm A lr vm ma vl lb) : W.cell? ⟨q, 0, none⟩ = some oF ∧ W.cell? ⟨q, 1, none⟩ = some (.pointer T.ad) ∧ W.frozen? ⟨q, 0, none⟩ = false ∧ W.frozen? ⟨q, 1, none⟩ = false :=
  ⟨(DI.box_cell h.box 0).trans rfl, (DI.box_cell h.box 1).trans rfl, DI.box_frozen h.box 0, DI.box_frozen h.box 1⟩
end
theorem infoM : (Try.prog.info? 26).map (fun i => (i.zero, i.size, i.bytes)) = some (some (.agg #[.nilFunc, .pointer none]), 2, 16) := by kernel_rfl
theorem infoL : (Try.prog.info? 28).map (fun i => (i.zero, i.size, i.bytes)) = some (some (.slice none 0 0), 1, 24) := by kernel_rfl
end Go.Proofs.Ythkceffnfhdjhaa
