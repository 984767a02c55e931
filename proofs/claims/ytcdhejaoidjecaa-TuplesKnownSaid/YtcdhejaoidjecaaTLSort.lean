/-
  TuplesSorted returns true: the walk.
-/
import Derived.Test.YtcdhejaoidjecaaTLFind
import Derived.Deep.DeepCutAuto
namespace Go.Proofs.Ytcdhejaoidjecaa
open Go.RowKit Go.Sort

theorem RowN.below {w w' : World} {A : Option Addr} {x : List (Nat × Nat)} (h : RowN w A x) (hb : Below w.heap.size w w') : RowN w' A x := fun hl => by
  obtain ⟨b, o, e, h1, h2⟩ := h hl
  refine ⟨b, o, e, Nat.lt_of_lt_of_le h1 hb.size, fun i hi => ?_⟩
  obtain ⟨p, q, h3, h4⟩ := h2 i hi
  exact ⟨p, q, (hb.cell (p := ⟨b, _, none⟩) h1).trans h3, (hb.cell (p := ⟨b, _, none⟩) h1).trans h4⟩
theorem sameI_self (l : List Tup) : sameI l l = 1 := by unfold sameI; rw [if_pos rfl]
theorem rsame_one (A B : Option Addr) (l m : List Tup) (c d : Nat) (w : World) (hR : Row w A l) (hS : Row w B m) (hn : l.length ≤ 10000) (h : l = m) :
    Calls Try.prog 41 #[.slice A l.length c, .slice B m.length d] w fun e w' => e = .returned (.int .i64 1) ∧ Below w.heap.size w w' := by
  subst h
  refine (rsame A B l l c d w hR hS hn).mono fun e w' h => ⟨?_, h.2.toBelow⟩
  rw [h.1, sameI_self]
theorem own_shape {w : World} {base : Nat} {A : Option Addr} {n c : Nat} {l : List Tup} (h : Own w base (.slice A n c) l) : (A = none ∧ c = 0) ∨ ∃ b o, A = some ⟨b, o, none⟩ := by
  rcases h.2 with ⟨e, _⟩ | ⟨g, cap, cur, e, _⟩
  · cases e; exact .inl ⟨rfl, rfl⟩
  · cases e; exact .inr ⟨g, 0, rfl⟩
theorem list_shape {A : Option Addr} {L : List Tup} (h : A = none ∨ ∃ g, A = some ⟨g, 0, none⟩) (k : A = none → L.length = 0) : (A = none ∧ L.length = 0) ∨ ∃ b o, A = some ⟨b, o, none⟩ := by
  rcases h with rfl | ⟨g, rfl⟩
  · exact .inl ⟨rfl, k rfl⟩
  · exact .inr ⟨g, 0, rfl⟩
theorem chs_some {a b : List Tup} (f : Bool → Bool → Bool) (x c y : Bool) (ha : Asc cmpT a) (hb : Asc cmpT b) (h : ∀ p q, (p || q) = true → f p q = sel x c y p q) : chs cmpT f a b = someL a b x c y := by
  unfold someL
  refine srt_of tot (asc_chs tot f ha hb) fun t => ?_
  rw [mem_chs tot f ha hb]
  unfold flt
  rw [List.mem_filter, List.mem_append]
  constructor
  · rintro ⟨h1, h2⟩
    refine ⟨h1, ?_⟩
    rw [← h _ _ (by rcases h1 with h1 | h1 <;> simp [h1])]; exact h2
  · rintro ⟨h1, h2⟩
    refine ⟨h1, ?_⟩
    rw [h _ _ (by rcases h1 with h1 | h1 <;> simp [h1])]; exact h2
theorem chs_swap {a b : List Tup} (ha : Asc cmpT a) (hb : Asc cmpT b) : chs cmpT (fun p q => p || q) a b = chs cmpT (fun p q => p || q) b a := by
  refine Asc.uniq tot (asc_chs tot _ ha hb) (asc_chs tot _ hb ha) fun t => ?_
  rw [mem_chs tot _ ha hb, mem_chs tot _ hb ha]
  simp only [Bool.or_eq_true, decide_eq_true_eq]
  constructor
  · rintro ⟨h, _⟩; exact ⟨h.symm, h.symm⟩
  · rintro ⟨h, _⟩; exact ⟨h.symm, h.symm⟩
theorem chs_len {a b : List Tup} (f : Bool → Bool → Bool) (ha : Asc cmpT a) (hb : Asc cmpT b) : (chs cmpT f a b).length ≤ a.length + b.length := by
  have h : (chs cmpT f a b) = srt cmpT ((a ++ b).filter fun t => f (decide (t ∈ a)) (decide (t ∈ b))) := srt_of tot (asc_chs tot f ha hb) fun t => by
    rw [mem_chs tot f ha hb, List.mem_filter, List.mem_append]
  rw [h]
  refine Nat.le_trans (length_srt _) (Nat.le_trans (List.length_filter_le _ _) ?_)
  rw [List.length_append]; exact Nat.le_refl _

/-- both arguments' cells -/
def BX (p q : Nat) (A : Option Addr) (x : List (Nat × Nat)) (c : Nat) (B : Option Addr) (y : List (Nat × Nat)) (d : Nat) (w : World) : Prop :=
  w.cell? ⟨p, 0, none⟩ = some (.slice A x.length c) ∧ w.cell? ⟨q, 0, none⟩ = some (.slice B y.length d) ∧ p < w.heap.size ∧ q < w.heap.size ∧ RowN w A x ∧ RowN w B y
theorem bx_keep {p q c d : Nat} {A B : Option Addr} {x y : List (Nat × Nat)} {W W' : World} (hb : Below W.heap.size W W') (h : W.cell? ⟨p, 0, none⟩ = some (.slice A x.length c) ∧ W.cell? ⟨q, 0, none⟩ = some (.slice B y.length d) ∧ p < W.heap.size ∧ q < W.heap.size ∧ RowN W A x ∧ RowN W B y) : W'.cell? ⟨p, 0, none⟩ = some (.slice A x.length c) ∧ W'.cell? ⟨q, 0, none⟩ = some (.slice B y.length d) ∧ p < W'.heap.size ∧ q < W'.heap.size ∧ RowN W' A x ∧ RowN W' B y := by
  obtain ⟨h0, h1, h2, h3, h4, h5⟩ := h
  exact ⟨(own_cells hb _ h2 _).1.trans h0, (own_cells hb _ h3 _).1.trans h1, Nat.lt_of_lt_of_le h2 hb.size, Nat.lt_of_lt_of_le h3 hb.size, h4.below hb, h5.below hb⟩
theorem BX.keep {p q c d : Nat} {A B : Option Addr} {x y : List (Nat × Nat)} {w w' : World} (h : BX p q A x c B y d w) (hb : Below w.heap.size w w') : BX p q A x c B y d w' := bx_keep hb h
/-- Of, as the first region calls it -/
theorem of_bx (A : Option Addr) (x : List (Nat × Nat)) (c : Nat) (w : World) (hR : RowN w A x) (hn : x.length ≤ maxLen) :
    Calls Try.prog 14 #[.agg #[.slice A x.length c]] w fun e w' => (∃ A1 c1, e = .returned (.slice A1 (ofT x).length c1) ∧ Row w' A1 (ofT x) ∧ ((A1 = none ∧ c1 = 0) ∨ ∃ b o, A1 = some ⟨b, o, none⟩)) ∧ Below w.heap.size w w' := by
  refine (of_any A x c w hR hn).mono fun e w' h => ?_
  obtain ⟨v, rfl, ho, hg⟩ := h
  obtain ⟨A1, c1, rfl, hR1, -, -⟩ := ho.row
  exact ⟨⟨A1, c1, rfl, hR1, own_shape ho⟩, hg.toBelow⟩

theorem of_b1 (p q : Nat) (A : Option Addr) (x : List (Nat × Nat)) (c : Nat) (B : Option Addr) (y : List (Nat × Nat)) (d : Nat) (w : World) (h : w.cell? ⟨p, 0, none⟩ = some (.slice A x.length c) ∧ w.cell? ⟨q, 0, none⟩ = some (.slice B y.length d) ∧ p < w.heap.size ∧ q < w.heap.size ∧ RowN w A x ∧ RowN w B y) (hn : x.length ≤ maxLen) :
    Calls Try.prog 14 #[.agg #[.slice A x.length c]] w fun e w' => (∃ A1 c1, e = .returned (.slice A1 (ofT x).length c1) ∧ Row w' A1 (ofT x) ∧ ((A1 = none ∧ c1 = 0) ∨ ∃ b o, A1 = some ⟨b, o, none⟩)) ∧ Below w.heap.size w w' := of_bx A x c w h.2.2.2.2.1 hn
theorem of_b2 (p q : Nat) (A : Option Addr) (x : List (Nat × Nat)) (c : Nat) (B : Option Addr) (y : List (Nat × Nat)) (d : Nat) (w : World) (h : w.cell? ⟨p, 0, none⟩ = some (.slice A x.length c) ∧ w.cell? ⟨q, 0, none⟩ = some (.slice B y.length d) ∧ p < w.heap.size ∧ q < w.heap.size ∧ RowN w A x ∧ RowN w B y) (hn : y.length ≤ maxLen) :
    Calls Try.prog 14 #[.agg #[.slice B y.length d]] w fun e w' => (∃ A1 c1, e = .returned (.slice A1 (ofT y).length c1) ∧ Row w' A1 (ofT y) ∧ ((A1 = none ∧ c1 = 0) ∨ ∃ b o, A1 = some ⟨b, o, none⟩)) ∧ Below w.heap.size w w' := of_bx B y d w h.2.2.2.2.2 hn

/-- the contracts, as the law calls them -/
theorem of_v (p q : Nat) (A : Option Addr) (x : List (Nat × Nat)) (c : Nat) (B : Option Addr) (y : List (Nat × Nat)) (d : Nat) (X : List Tup) (w : World) (h : BX p q A x c B y d w) (hn : x.length ≤ maxLen) (hX : ofT x = X) :
    Calls Try.prog 14 #[.agg #[.slice A x.length c]] w fun e w' => (∃ A1 c1, e = .returned (.slice A1 X.length c1) ∧ Row w' A1 X) ∧ Below w.heap.size w w' := by
  subst hX
  refine (of_bx A x c w h.2.2.2.2.1 hn).mono fun e w' h => ?_
  obtain ⟨⟨A1, c1, e1, h1, -⟩, h2⟩ := h
  exact ⟨⟨A1, c1, e1, h1⟩, h2⟩
theorem tsorted_v (A : Option Addr) (l a : List Tup) (c : Nat) (w : World) (hR : Row w A l) (hA : (A = none ∧ c = 0) ∨ ∃ b o, A = some ⟨b, o, none⟩) (hn : l.length ≤ 20) (h : srt cmpT l = a) :
    Calls Try.prog 39 #[.slice A l.length c] w fun e w' => (∃ A1, e = .returned (.slice A1 a.length a.length) ∧ Row w' A1 a ∧ ((A1 = none ∧ a.length = 0) ∨ ∃ b o, A1 = some ⟨b, o, none⟩)) ∧ Below w.heap.size w w' := by
  subst h
  refine (tsorted A l c w hR hA (by omega)).mono fun e w' h => ?_
  obtain ⟨A1, h1, h2, h3, h4, h5⟩ := h
  exact ⟨⟨A1, h1, h2, list_shape h4 h5⟩, h3.toBelow⟩
theorem tis_b (A : Option Addr) (l : List Tup) (c : Nat) (v : Bool) (w : World) (hR : Row w A l) (hn : l.length ≤ 20) (hv : isB cmpT l = v) :
    Calls Try.prog 36 #[.slice A l.length c] w fun e w' => e = .returned (.bool v) ∧ Below w.heap.size w w' :=
  (tis_v A l c v w hR (Nat.le_trans hn (by decide)) hv).mono fun _ _ h => ⟨h.1, h.2.toBelow⟩
theorem ris_b (A : Option Addr) (l : List Tup) (c : Nat) (v : Bool) (w : World) (hR : Row w A l) (hF : ∀ x ∈ l, Fits x) (hn : l.length ≤ 20) (hv : isB cmpT l = v) :
    Calls Try.prog 20 #[.slice A l.length c] w fun e w' => e = .returned (.int .i64 (if v = true then 1 else 0)) ∧ Below w.heap.size w w' := by
  refine (ris A l c w hR hF (Nat.le_trans hn (by decide))).mono fun _ _ h => ⟨?_, h.2.toBelow⟩
  rw [h.1]; unfold isI; rw [hv]
theorem union_v (A B : Option Addr) (la lb u : List Tup) (w : World) (hR : Row w A la) (hS : Row w B lb) (ha : la.length ≤ 20) (hb : lb.length ≤ 20) (h1 : isB cmpT la = true) (h2 : isB cmpT lb = true) (h : chs cmpT (fun p q => p || q) la lb = u) :
    Calls Try.prog 9 #[.slice A la.length la.length, .slice B lb.length lb.length] w fun e w' => (∃ A1, e = .returned (.tuple #[.slice A1 u.length u.length, .int .i64 0]) ∧ Row w' A1 u) ∧ Below w.heap.size w w' := by
  subst h
  refine (union_yes A B la lb _ _ w hR hS (Nat.le_refl _) (Nat.le_refl _) (by omega) (by omega) h1 h2).mono fun e w' h => ?_
  obtain ⟨A1, h1, h2, h3, -, -⟩ := h
  exact ⟨⟨A1, h1, h2⟩, h3.toBelow⟩
theorem common_v (A B : Option Addr) (la lb u : List Tup) (w : World) (hR : Row w A la) (hS : Row w B lb) (ha : la.length ≤ 20) (hb : lb.length ≤ 20) (h1 : isB cmpT la = true) (h2 : isB cmpT lb = true) (h : chs cmpT (fun p q => p && q) la lb = u) :
    Calls Try.prog 10 #[.slice A la.length la.length, .slice B lb.length lb.length] w fun e w' => (∃ A1, e = .returned (.tuple #[.slice A1 u.length u.length, .int .i64 0]) ∧ Row w' A1 u) ∧ Below w.heap.size w w' := by
  subst h
  refine (common_yes A B la lb _ _ w hR hS (Nat.le_refl _) (Nat.le_refl _) (by omega) (by omega) h1 h2).mono fun e w' h => ?_
  obtain ⟨A1, h1, h2, h3, -, -⟩ := h
  exact ⟨⟨A1, h1, h2⟩, h3.toBelow⟩
theorem without_v (A B : Option Addr) (la lb u : List Tup) (w : World) (hR : Row w A la) (hS : Row w B lb) (ha : la.length ≤ 20) (hb : lb.length ≤ 20) (h1 : isB cmpT la = true) (h2 : isB cmpT lb = true) (h : chs cmpT (fun p q => p && !q) la lb = u) :
    Calls Try.prog 11 #[.slice A la.length la.length, .slice B lb.length lb.length] w fun e w' => (∃ A1, e = .returned (.tuple #[.slice A1 u.length u.length, .int .i64 0]) ∧ Row w' A1 u) ∧ Below w.heap.size w w' := by
  subst h
  refine (without_yes A B la lb _ _ w hR hS (Nat.le_refl _) (Nat.le_refl _) (by omega) (by omega) h1 h2).mono fun e w' h => ?_
  obtain ⟨A1, h1, h2, h3, -, -⟩ := h
  exact ⟨⟨A1, h1, h2⟩, h3.toBelow⟩


end Go.Proofs.Ytcdhejaoidjecaa
