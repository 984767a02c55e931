/-
  PLAIN FACTS: lists that ascend are told by their members; the lists of TreesKnown. And BOXES of maps: what a store into one leaves.
-/
import Derived.Test.YthkceffnfhdjhaaDPlay
namespace Go.Proofs.Ythkceffnfhdjhaa
namespace Tr
theorem asc_ext {α : Type} {f : Int → Int} : ∀ {l l' : List (Int × α)}, Asc f l → Asc f l' → (∀ p, p ∈ l ↔ p ∈ l') → l = l'
  | [], [], _, _, _ => rfl
  | [], q :: u, _, _, h => by have := (h q).2 List.mem_cons_self; cases this
  | p :: t, [], _, _, h => by have := (h p).1 List.mem_cons_self; cases this
  | p :: t, q :: u, h1, h2, h => by
    obtain ⟨a1, a2⟩ := asc_cons h1
    obtain ⟨b1, b2⟩ := asc_cons h2
    have e : p = q := by
      rcases List.mem_cons.1 ((h p).1 List.mem_cons_self) with e | e
      · exact e
      · rcases List.mem_cons.1 ((h q).2 List.mem_cons_self) with e' | e'
        · exact e'.symm
        · have := a2 q e'; have := b2 p e; omega
    subst e
    rw [asc_ext a1 b1 fun x => ?_]
    constructor
    · intro hx
      rcases List.mem_cons.1 ((h x).1 (List.mem_cons_of_mem _ hx)) with e | e
      · subst e; have := a2 x hx; omega
      · exact e
    · intro hx
      rcases List.mem_cons.1 ((h x).2 (List.mem_cons_of_mem _ hx)) with e | e
      · subst e; have := b2 x hx; omega
      · exact e
theorem put_iff {α : Type} {f : Int → Int} {l : List (Int × α)} {k : Int} {v : α} (h : Asc f l) (hn : ∀ p ∈ l, f p.1 ≠ f k) (p : Int × α) : p ∈ putL f l k v ↔ p ∈ l ∨ p = (k, v) := by
  rw [put_new h hn, List.mem_append, List.mem_cons]
  constructor
  · rintro (h | h | h)
    · exact .inl (List.mem_of_mem_take h)
    · exact .inr h
    · exact .inl (List.mem_of_mem_drop h)
  · rintro (h1 | h1)
    · rw [← List.take_append_drop (rkL f l k) l] at h1
      rcases List.mem_append.1 h1 with h1 | h1
      · exact .inl h1
      · exact .inr (.inr h1)
    · exact .inr (.inl h1)
theorem put_len_new {α : Type} {f : Int → Int} {l : List (Int × α)} {k : Int} {v : α} (h : Asc f l) (hn : ∀ p ∈ l, f p.1 ≠ f k) : (putL f l k v).length = l.length + 1 := by
  rw [put_new h hn, List.length_append, List.length_cons, List.length_take, List.length_drop]
  have : rkL f l k ≤ l.length := List.countP_le_length
  omega
theorem drop_iff {α : Type} {f : Int → Int} {l : List (Int × α)} {k : Int} (p : Int × α) : p ∈ dropL f l k ↔ p ∈ l ∧ f p.1 ≠ f k := by
  unfold dropL; rw [List.mem_filter]; simp

/-- the pairs (j, g j) of the j below 4096 with P -/
def cl (P : Nat → Bool) (g : Nat → Int) : List (Int × Int) := ((List.range 4096).filter P).map fun (j : Nat) => ((j : Int), g j)
theorem cl_asc (P : Nat → Bool) (g : Nat → Int) : Asc id (cl P g) := by
  unfold cl Asc
  rw [List.pairwise_map]
  exact (List.Pairwise.filter P List.pairwise_lt_range).imp fun h => by simpa using h
theorem cl_mem {P : Nat → Bool} {g : Nat → Int} {p : Int × Int} : p ∈ cl P g ↔ ∃ j, j < 4096 ∧ P j = true ∧ p = ((j : Int), g j) := by
  unfold cl
  rw [List.mem_map]
  constructor
  · rintro ⟨j, hj, rfl⟩
    rw [List.mem_filter, List.mem_range] at hj
    exact ⟨j, hj.1, hj.2, rfl⟩
  · rintro ⟨j, h1, h2, rfl⟩
    exact ⟨j, List.mem_filter.2 ⟨List.mem_range.2 h1, h2⟩, rfl⟩
theorem cl_put {P Q : Nat → Bool} {g : Nat → Int} {k : Nat} (hk : k < 4096) (hP : P k = false) (hQ : ∀ j, j < 4096 → Q j = (P j || j == k)) : putL id (cl P g) (k : Int) (g k) = cl Q g := by
  have hn : ∀ p ∈ cl P g, id p.1 ≠ id (k : Int) := fun p hp => by
    obtain ⟨j, h1, h2, rfl⟩ := cl_mem.1 hp
    intro e
    have : j = k := by have e' : (j : Int) = (k : Int) := e; omega
    subst this; rw [hP] at h2; cases h2
  refine asc_ext (put_asc (cl_asc P g)) (cl_asc Q g) fun p => ?_
  rw [put_iff (cl_asc P g) hn, cl_mem, cl_mem]
  constructor
  · rintro (⟨j, h1, h2, rfl⟩ | rfl)
    · exact ⟨j, h1, by rw [hQ j h1, h2]; rfl, rfl⟩
    · exact ⟨k, hk, by rw [hQ k hk]; simp, rfl⟩
  · rintro ⟨j, h1, h2, rfl⟩
    rw [hQ j h1, Bool.or_eq_true] at h2
    rcases h2 with h2 | h2
    · exact .inl ⟨j, h1, h2, rfl⟩
    · have : j = k := by simpa using h2
      subst this; exact .inr rfl
theorem cl_drop {P Q : Nat → Bool} {g : Nat → Int} {k : Nat} (hQ : ∀ j, j < 4096 → Q j = (P j && j != k)) : dropL id (cl P g) (k : Int) = cl Q g := by
  refine asc_ext (drop_asc (cl_asc P g)) (cl_asc Q g) fun p => ?_
  rw [drop_iff, cl_mem, cl_mem]
  constructor
  · rintro ⟨⟨j, h1, h2, rfl⟩, h3⟩
    refine ⟨j, h1, ?_, rfl⟩
    rw [hQ j h1, h2]
    simp at h3 ⊢; omega
  · rintro ⟨j, h1, h2, rfl⟩
    rw [hQ j h1, Bool.and_eq_true] at h2
    refine ⟨⟨j, h1, h2.1, rfl⟩, ?_⟩
    have := h2.2; simp at this ⊢; omega
theorem cl_len {P : Nat → Bool} {g : Nat → Int} : (cl P g).length = (List.range 4096).countP P := by
  unfold cl; rw [List.length_map, List.countP_eq_length_filter]
theorem cl_len_le {P : Nat → Bool} {g : Nat → Int} : (cl P g).length ≤ 4096 := by
  rw [cl_len]; have := List.countP_le_length (p := P) (l := List.range 4096); rwa [List.length_range] at this
theorem cl_all {g : Nat → Int} {i : Nat} (h : i < 4096) : (cl (fun _ => true) g)[i]? = some ((i : Int), g i) := by
  unfold cl
  rw [List.filter_eq_self.2 (fun _ _ => rfl), List.getElem?_map, List.getElem?_range h]; rfl
theorem cl_all_len {g : Nat → Int} : (cl (fun _ => true) g).length = 4096 := by
  unfold cl
  rw [List.filter_eq_self.2 (fun _ _ => rfl), List.length_map, List.length_range]
theorem cl_rk {P : Nat → Bool} {g : Nat → Int} {i : Nat} : rkL id (cl P g) (i : Int) = (List.range 4096).countP fun j => P j && decide (j < i) := by
  unfold rkL cl
  rw [List.countP_map, List.countP_filter]
  refine List.countP_congr fun j _ => ?_
  simp [and_comm]
theorem odd_count (i : Nat) : ∀ n, (List.range n).countP (fun j => (j % 2 == 1) && decide (j < i)) = min n i / 2
  | 0 => by simp
  | n + 1 => by
    rw [List.range_succ, List.countP_append, odd_count i n, List.countP_cons, List.countP_nil]
    by_cases h : (n % 2 == 1 && decide (n < i)) = true
    · rw [if_pos h]; simp at h; omega
    · rw [if_neg h]; simp at h; omega
theorem all_count (i : Nat) : ∀ n, (List.range n).countP (fun j => true && decide (j < i)) = min n i
  | 0 => by simp
  | n + 1 => by
    rw [List.range_succ, List.countP_append, all_count i n, List.countP_cons, List.countP_nil]
    by_cases h : (true && decide (n < i)) = true
    · rw [if_pos h]; simp at h; omega
    · rw [if_neg h]; simp at h; omega
theorem rk_odd {g : Nat → Int} {i : Nat} (h : i ≤ 4096) : rkL id (cl (fun j => j % 2 == 1) g) (i : Int) = i / 2 := by
  rw [cl_rk, odd_count]; omega
theorem rk_all {g : Nat → Int} {i : Nat} (h : i ≤ 4096) : rkL id (cl (fun _ => true) g) (i : Int) = i := by
  rw [cl_rk, all_count]; omega
theorem cl_odd_len {g : Nat → Int} : (cl (fun j => j % 2 == 1) g).length = 2048 := by
  rw [cl_len]
  have := odd_count 4096 4096
  rw [← show (List.range 4096).countP (fun j => (j % 2 == 1) && decide (j < 4096)) = (List.range 4096).countP (fun j => j % 2 == 1) from List.countP_congr fun j hj => by rw [List.mem_range] at hj; simp [hj]]
  rw [this]; rfl
theorem cl_rng {g : Nat → Int} : (rng (rkL id (cl (fun _ => true) g) (100 : Nat) : Nat) (rkL id (cl (fun _ => true) g) (200 : Nat) : Nat) (cl (fun _ => true) g)).length = 100 := by
  rw [rk_all (by omega), rk_all (by omega)]
  unfold rng
  rw [List.length_take, List.length_drop, cl_all_len]
  omega
end Tr

/-! ### boxes -/
open Go.RowKit Go.Deep
def BX (F : Value) (W : World) (q : Nat) (T : Tr Int) : Prop := W.heap[q]? = some (.cells #[F, .pointer T.ad] 26 (0, 0))
abbrev stB (W : World) (q : Nat) (F : Value) (T : Tr Int) : World := (W.setCell ⟨q, 0, none⟩ F).setCell ⟨q, 1, none⟩ (.pointer T.ad)
section
variable {F : Value} {W W' : World} {q q2 n : Nat} {T T2 T' : Tr Int}
theorem BX.lt (h : BX F W q T) : q < W.heap.size := (Array.getElem?_eq_some_iff.1 h).1
theorem BX.below (h : BX F W q T) (hb : Below W.heap.size W W') : BX F W' q T := (hb.block q h.lt).trans h
theorem bx_new (W : World) (F : Value) (T : Tr Int) : BX F (W.alloc (.cells #[F, .pointer T.ad] 26 (0, 0))) W.heap.size T := heap_alloc_new W _
theorem BX.cells (h : BX F W q T) : W.cell? ⟨q, 0, none⟩ = some F ∧ W.cell? ⟨q, 1, none⟩ = some (.pointer T.ad) ∧ W.frozen? ⟨q, 0, none⟩ = false ∧ W.frozen? ⟨q, 1, none⟩ = false :=
  ⟨(DI.box_cell h 0).trans rfl, (DI.box_cell h 1).trans rfl, DI.box_frozen h 0, DI.box_frozen h 1⟩
theorem BX.st (h : BX F W q T) (T' : Tr Int) : BX F (stB W q F T') q T' := by
  have h2 : (W.setCell ⟨q, 0, none⟩ F).heap[q]? = some (.cells (#[F, .pointer T.ad].setIfInBounds 0 F) 26 (0, 0)) := heap_setCell_same W q 0 _ _ F h
  exact heap_setCell_same _ q 1 _ _ _ h2
theorem BX.st_ne {F2 : Value} (h : BX F2 W q2 T2) (ne : q2 ≠ q) (F : Value) (T' : Tr Int) : BX F2 (stB W q F T') q2 T2 :=
  (heap_setCell_other _ ⟨q, 1, none⟩ q2 _ ne).trans ((heap_setCell_other W ⟨q, 0, none⟩ q2 _ ne).trans h)
theorem map_st {F : Value} {f : Int → Int} {T1 : Tr Int} {l : List (Int × Int)} (m : DI.MapL f W T1 l) (h : BX F W q T) (T' : Tr Int) : DI.MapL f (stB W q F T') T1 l :=
  map_bod m (DI.set_two h F (.pointer T'.ad)) (by decide)
theorem lies_st {T1 : Tr Int} (m : DI.Lies W T1) (h : BX F W q T) (T' : Tr Int) : DI.Lies (stB W q F T') T1 :=
  m.bod (DI.set_two h F (.pointer T'.ad)) (by decide) (by decide)
theorem row_st {A : Option Addr} {l : List (Int × Int)} (m : RowQ W A l) (h : BX F W q T) (T' : Tr Int) : RowQ (stB W q F T') A l :=
  row_bod m (DI.set_two h F (.pointer T'.ad)) (by decide)
theorem below_st {w : World} (hb : Below w.heap.size w W) (hq : w.heap.size ≤ q) (F : Value) (T' : Tr Int) : Below w.heap.size w (stB W q F T') := g_set (g_set hb hq _) hq _
/-- a box with a map in it -/
structure B1 (F : Value) (f : Int → Int) (w W : World) (q : Nat) (T : Tr Int) (l : List (Int × Int)) : Prop where
  box : BX F W q T
  map : DI.MapL f W T l
  bel : Below w.heap.size w W
  qw : w.heap.size ≤ q
variable {f : Int → Int} {w : World} {l l' l2 : List (Int × Int)}
theorem B1.below (h : B1 F f w W q T l) (hb : Below W.heap.size W W') : B1 F f w W' q T l := ⟨h.box.below hb, h.map.below hb, g_trans h.bel hb, h.qw⟩
theorem B1.st (h : B1 F f w W q T l) (hm : DI.MapL f W T' l') : B1 F f w (stB W q F T') q T' l' := ⟨h.box.st T', map_st hm h.box T', below_st h.bel h.qw F T', h.qw⟩
theorem B1.st_ne {F2 : Value} {f2 : Int → Int} (h : B1 F2 f2 w W q2 T2 l2) (hb : B1 F f w W q T l) (ne : q2 ≠ q) (T' : Tr Int) : B1 F2 f2 w (stB W q F T') q2 T2 l2 :=
  ⟨h.box.st_ne ne F T', map_st h.map hb.box T', below_st h.bel hb.qw F T', h.qw⟩
theorem B1.new (hm : DI.MapL f W T l) (hb : Below w.heap.size w W) (F : Value) : B1 F f w (W.alloc (.cells #[F, .pointer T.ad] 26 (0, 0))) W.heap.size T l :=
  ⟨bx_new W F T, hm.below (g_alloc g_refl _), g_trans hb (g_alloc g_refl _), hb.size⟩
theorem B1.alloc (h : B1 F f w W q T l) (o : Obj) : B1 F f w (W.alloc o) q T l := h.below (g_alloc g_refl o)
end
theorem Tr.cl_congr {P Q : Nat → Bool} {g : Nat → Int} (h : ∀ j, j < 4096 → P j = Q j) : Tr.cl P g = Tr.cl Q g := by
  unfold Tr.cl
  rw [List.filter_congr (fun j hj => h j (List.mem_range.1 hj))]
theorem keep5 {w w' : World} {g i : Nat} {v : Value} (hb : Below w.heap.size w w') (h : w.cell? ⟨g, i, none⟩ = some v) : w'.cell? ⟨g, i, none⟩ = some v := DI.keep1 hb h
abbrev gU : Nat → Int := fun j => -(j : Int)
abbrev gD : Nat → Int := fun j => 4095 - (j : Int)
theorem kn_lens :
    (∀ (T : Tr Int) (W : World), DI.MapL id W T (Tr.cl (fun _ => true) gU) → Calls Try.prog 14 #[.agg #[oF, .pointer T.ad]] W fun e w' => e = .returned (.int .i64 4096) ∧ Below W.heap.size W w')
    ∧ (∀ (T : Tr Int) (W : World), DI.MapL id W T (Tr.cl (fun _ => true) gD) → Calls Try.prog 14 #[.agg #[oF, .pointer T.ad]] W fun e w' => e = .returned (.int .i64 4096) ∧ Below W.heap.size W w')
    ∧ (∀ (W : World), Calls Try.prog 30 #[.int .i64 17] W fun e w' => e = .returned (.int .i64 4180) ∧ w' = W)
    ∧ (∀ (T : Tr Int) (W : World), DI.MapL id W T (Tr.cl (fun j => j % 2 == 1) gU) → Calls Try.prog 14 #[.agg #[oF, .pointer T.ad]] W fun e w' => e = .returned (.int .i64 2048) ∧ Below W.heap.size W w')
    ∧ (∀ (T : Tr Int) (W : World), DI.MapL id W T (Tr.cl (fun _ => true) gU) → Calls Try.prog 25 #[.agg #[oF, .pointer T.ad], .int .i64 100, .int .i64 200] W fun e w' => (∃ A, e = .returned (.slice A 100 100)) ∧ Below W.heap.size W w') := by
  refine ⟨fun T W h => ?_, fun T W h => ?_, fun W => ?_, fun T W h => ?_, fun T W h => ?_⟩
  · have q := DI.len_l 9 h
    rw [Tr.cl_all_len, show ((4096 : Nat) : Int) = 4096 from rfl] at q; exact q
  · have q := DI.len_l 9 h
    rw [Tr.cl_all_len, show ((4096 : Nat) : Int) = 4096 from rfl] at q; exact q
  · have q := least_any 17 W (by omega)
    rw [show Tr.lst 17 = 4180 from by decide, show ((17 : Nat) : Int) = 17 from rfl, show ((4180 : Nat) : Int) = 4180 from rfl] at q; exact q
  · have q := DI.len_l 9 h
    rw [Tr.cl_odd_len, show ((2048 : Nat) : Int) = 2048 from rfl] at q; exact q
  · refine (DI.between_l iOrd Tr.ordI_f 100 200 h (by rw [Tr.cl_all_len]; omega)).mono ?_
    rintro e w' ⟨A, he, -, hb⟩
    refine ⟨⟨A, ?_⟩, hb⟩
    have q := Tr.cl_rng (g := gU)
    rw [show ((100 : Nat) : Int) = 100 from rfl, show ((200 : Nat) : Int) = 200 from rfl] at q
    rw [he, q]
theorem kn_gets (i : Nat) (hi : i < 4096) :
    (∀ (T : Tr Int) (W : World), DI.MapL id W T (Tr.cl (fun _ => true) gU) → Calls Try.prog 21 #[.agg #[oF, .pointer T.ad], .int .i64 (i : Nat)] W fun e w' => e = .returned (.tuple #[.agg #[.int .i64 (i : Nat), .int .i64 (-(i : Int))], .int .i64 0]) ∧ Below W.heap.size W w')
    ∧ (∀ (T : Tr Int) (W : World), DI.MapL id W T (Tr.cl (fun _ => true) gD) → Calls Try.prog 18 #[.agg #[oF, .pointer T.ad], .int .i64 (i : Nat)] W fun e w' => e = .returned (.tuple #[.int .i64 (4095 - (i : Int)), .bool true]) ∧ Below W.heap.size W w')
    ∧ (i % 2 = 1 → ∀ (T : Tr Int) (W : World), DI.MapL id W T (Tr.cl (fun j => j % 2 == 1) gU) → Calls Try.prog 18 #[.agg #[oF, .pointer T.ad], .int .i64 (i : Nat)] W fun e w' => e = .returned (.tuple #[.int .i64 (-(i : Int)), .bool true]) ∧ Below W.heap.size W w')
    ∧ (i % 2 = 0 → ∀ (T : Tr Int) (W : World), DI.MapL id W T (Tr.cl (fun j => j % 2 == 1) gU) → Calls Try.prog 18 #[.agg #[oF, .pointer T.ad], .int .i64 (i : Nat)] W fun e w' => e = .returned (.tuple #[.int .i64 0, .bool false]) ∧ Below W.heap.size W w')
    ∧ (∀ (T : Tr Int) (W : World), DI.MapL id W T (Tr.cl (fun j => j % 2 == 1) gU) → Calls Try.prog 19 #[.agg #[oF, .pointer T.ad], .int .i64 (i : Nat)] W fun e w' => e = .returned (.int .i64 ((i : Int) / 2)) ∧ Below W.heap.size W w') := by
  refine ⟨fun T W h => ?_, fun T W h => ?_, fun h1 T W h => ?_, fun h1 T W h => ?_, fun T W h => ?_⟩
  · exact DI.at_l _ (Tr.cl_all hi) h (by rw [Tr.cl_all_len]; omega)
  · exact DI.get_hit iOrd Tr.ordI_f (p := ((i : Int), gD i)) (Tr.cl_mem.2 ⟨i, hi, rfl, rfl⟩) rfl h (by rw [Tr.cl_all_len]; omega)
  · exact DI.get_hit iOrd Tr.ordI_f (p := ((i : Int), gU i)) (Tr.cl_mem.2 ⟨i, hi, by simp [h1], rfl⟩) rfl h (by rw [Tr.cl_odd_len]; omega)
  · refine DI.get_miss iOrd Tr.ordI_f (fun p hp e => ?_) h (by rw [Tr.cl_odd_len]; omega)
    obtain ⟨j, -, hj, rfl⟩ := Tr.cl_mem.1 hp
    have : (j : Int) = (i : Int) := e
    simp at hj; omega
  · have q := DI.rank_l iOrd Tr.ordI_f (i : Int) h (by rw [Tr.cl_odd_len]; omega)
    rw [Tr.rk_odd (by omega), show ((i / 2 : Nat) : Int) = (i : Int) / 2 by omega] at q; exact q
theorem Tr.cl_nil {P : Nat → Bool} {g : Nat → Int} (h : ∀ j, j < 4096 → P j = false) : Tr.cl P g = [] := by
  unfold Tr.cl
  rw [List.filter_eq_nil_iff.2 (fun j hj => by rw [h j (List.mem_range.1 hj)]; decide)]; rfl
end Go.Proofs.Ythkceffnfhdjhaa
