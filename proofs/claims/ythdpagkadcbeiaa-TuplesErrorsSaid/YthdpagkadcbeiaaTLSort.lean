/-
  TuplesSorted returns true: the walk.
-/
import Derived.Test.YthdpagkadcbeiaaTLFind
import Derived.Deep.DeepCutAuto
namespace Go.Proofs.Ythdpagkadcbeiaa
open Go.RowKit Go.Sort

theorem RowN.below {w w' : World} {A : Option Addr} {x : List (Nat × Nat)} (h : RowN w A x) (hb : Below w.heap.size w w') : RowN w' A x := fun hl => by
  obtain ⟨b, o, e, h1, h2⟩ := h hl
  refine ⟨b, o, e, Nat.lt_of_lt_of_le h1 hb.size, fun i hi => ?_⟩
  obtain ⟨p, q, h3, h4⟩ := h2 i hi
  exact ⟨p, q, (hb.cell (p := ⟨b, _, none⟩) h1).trans h3, (hb.cell (p := ⟨b, _, none⟩) h1).trans h4⟩
theorem sameI_self (l : List Tup) : sameI l l = 1 := by unfold sameI; rw [if_pos rfl]
theorem rsame_one (A B : Option Addr) (l m : List Tup) (c d : Nat) (w : World) (hR : Row w A l) (hS : Row w B m) (hn : l.length ≤ 10000) (h : l = m) :
    Calls Try.prog 20 #[.slice A l.length c, .slice B m.length d] w fun e w' => e = .returned (.int .i64 1) ∧ Below w.heap.size w w' := by
  subst h
  refine (rsame A B l l c d w hR hS hn).mono fun e w' h => ⟨?_, h.2.toBelow⟩
  rw [h.1, sameI_self]
theorem own_shape {w : World} {base : Nat} {A : Option Addr} {n c : Nat} {l : List Tup} (h : Own w base (.slice A n c) l) : (A = none ∧ c = 0) ∨ ∃ b o, A = some ⟨b, o, none⟩ := by
  rcases h.2 with ⟨e, _⟩ | ⟨g, cap, cur, e, _⟩
  · cases e; exact .inl ⟨rfl, rfl⟩
  · cases e; exact .inr ⟨g, 0, rfl⟩
theorem list_shape {A : Option Addr} {L : List Tup} (h : A = none ∨ ∃ g, A = some ⟨g, 0, none⟩) (k : A = none → L.length = 0) : (A = none ∧ L.length = 0) ∨ ∃ b o, A = some ⟨b, o, none⟩ := by
  rcases h with rfl | ⟨g, rfl⟩
  · exact .inl ⟨rfl, k rfl⟩
  · exact .inr ⟨g, 0, rfl⟩
theorem chs_some {a b : List Tup} (f : Bool → Bool → Bool) (x c y : Bool) (ha : Asc cmpT a) (hb : Asc cmpT b) (h : ∀ p q, (p || q) = true → f p q = sel x c y p q) : chs cmpT f a b = someL a b x c y := by
  unfold someL
  refine srt_of tot (asc_chs tot f ha hb) fun t => ?_
  rw [mem_chs tot f ha hb]
  unfold flt
  rw [List.mem_filter, List.mem_append]
  constructor
  · rintro ⟨h1, h2⟩
    refine ⟨h1, ?_⟩
    rw [← h _ _ (by rcases h1 with h1 | h1 <;> simp [h1])]; exact h2
  · rintro ⟨h1, h2⟩
    refine ⟨h1, ?_⟩
    rw [h _ _ (by rcases h1 with h1 | h1 <;> simp [h1])]; exact h2
theorem chs_swap {a b : List Tup} (ha : Asc cmpT a) (hb : Asc cmpT b) : chs cmpT (fun p q => p || q) a b = chs cmpT (fun p q => p || q) b a := by
  refine Asc.uniq tot (asc_chs tot _ ha hb) (asc_chs tot _ hb ha) fun t => ?_
  rw [mem_chs tot _ ha hb, mem_chs tot _ hb ha]
  simp only [Bool.or_eq_true, decide_eq_true_eq]
  constructor
  · rintro ⟨h, _⟩; exact ⟨h.symm, h.symm⟩
  · rintro ⟨h, _⟩; exact ⟨h.symm, h.symm⟩
theorem chs_len {a b : List Tup} (f : Bool → Bool → Bool) (ha : Asc cmpT a) (hb : Asc cmpT b) : (chs cmpT f a b).length ≤ a.length + b.length := by
  have h : (chs cmpT f a b) = srt cmpT ((a ++ b).filter fun t => f (decide (t ∈ a)) (decide (t ∈ b))) := srt_of tot (asc_chs tot f ha hb) fun t => by
    rw [mem_chs tot f ha hb, List.mem_filter, List.mem_append]
  rw [h]
  refine Nat.le_trans (length_srt _) (Nat.le_trans (List.length_filter_le _ _) ?_)
  rw [List.length_append]; exact Nat.le_refl _

/-- both arguments' cells -/
def BX (p q : Nat) (A : Option Addr) (x : List (Nat × Nat)) (c : Nat) (B : Option Addr) (y : List (Nat × Nat)) (d : Nat) (w : World) : Prop :=
  w.cell? ⟨p, 0, none⟩ = some (.slice A x.length c) ∧ w.cell? ⟨q, 0, none⟩ = some (.slice B y.length d) ∧ p < w.heap.size ∧ q < w.heap.size ∧ RowN w A x ∧ RowN w B y
theorem bx_keep {p q c d : Nat} {A B : Option Addr} {x y : List (Nat × Nat)} {W W' : World} (hb : Below W.heap.size W W') (h : W.cell? ⟨p, 0, none⟩ = some (.slice A x.length c) ∧ W.cell? ⟨q, 0, none⟩ = some (.slice B y.length d) ∧ p < W.heap.size ∧ q < W.heap.size ∧ RowN W A x ∧ RowN W B y) : W'.cell? ⟨p, 0, none⟩ = some (.slice A x.length c) ∧ W'.cell? ⟨q, 0, none⟩ = some (.slice B y.length d) ∧ p < W'.heap.size ∧ q < W'.heap.size ∧ RowN W' A x ∧ RowN W' B y := by
  obtain ⟨h0, h1, h2, h3, h4, h5⟩ := h
  exact ⟨(own_cells hb _ h2 _).1.trans h0, (own_cells hb _ h3 _).1.trans h1, Nat.lt_of_lt_of_le h2 hb.size, Nat.lt_of_lt_of_le h3 hb.size, h4.below hb, h5.below hb⟩
theorem BX.keep {p q c d : Nat} {A B : Option Addr} {x y : List (Nat × Nat)} {w w' : World} (h : BX p q A x c B y d w) (hb : Below w.heap.size w w') : BX p q A x c B y d w' := bx_keep hb h
/-- Of, as the first region calls it -/
theorem of_bx (A : Option Addr) (x : List (Nat × Nat)) (c : Nat) (w : World) (hR : RowN w A x) (hn : x.length ≤ maxLen) :
    Calls Try.prog 18 #[.agg #[.slice A x.length c]] w fun e w' => (∃ A1 c1, e = .returned (.slice A1 (ofT x).length c1) ∧ Row w' A1 (ofT x) ∧ ((A1 = none ∧ c1 = 0) ∨ ∃ b o, A1 = some ⟨b, o, none⟩)) ∧ Below w.heap.size w w' := by
  refine (of_any A x c w hR hn).mono fun e w' h => ?_
  obtain ⟨v, rfl, ho, hg⟩ := h
  obtain ⟨A1, c1, rfl, hR1, -, -⟩ := ho.row
  exact ⟨⟨A1, c1, rfl, hR1, own_shape ho⟩, hg.toBelow⟩

theorem of_b1 (p q : Nat) (A : Option Addr) (x : List (Nat × Nat)) (c : Nat) (B : Option Addr) (y : List (Nat × Nat)) (d : Nat) (w : World) (h : w.cell? ⟨p, 0, none⟩ = some (.slice A x.length c) ∧ w.cell? ⟨q, 0, none⟩ = some (.slice B y.length d) ∧ p < w.heap.size ∧ q < w.heap.size ∧ RowN w A x ∧ RowN w B y) (hn : x.length ≤ maxLen) :
    Calls Try.prog 18 #[.agg #[.slice A x.length c]] w fun e w' => (∃ A1 c1, e = .returned (.slice A1 (ofT x).length c1) ∧ Row w' A1 (ofT x) ∧ ((A1 = none ∧ c1 = 0) ∨ ∃ b o, A1 = some ⟨b, o, none⟩)) ∧ Below w.heap.size w w' := of_bx A x c w h.2.2.2.2.1 hn
theorem of_b2 (p q : Nat) (A : Option Addr) (x : List (Nat × Nat)) (c : Nat) (B : Option Addr) (y : List (Nat × Nat)) (d : Nat) (w : World) (h : w.cell? ⟨p, 0, none⟩ = some (.slice A x.length c) ∧ w.cell? ⟨q, 0, none⟩ = some (.slice B y.length d) ∧ p < w.heap.size ∧ q < w.heap.size ∧ RowN w A x ∧ RowN w B y) (hn : y.length ≤ maxLen) :
    Calls Try.prog 18 #[.agg #[.slice B y.length d]] w fun e w' => (∃ A1 c1, e = .returned (.slice A1 (ofT y).length c1) ∧ Row w' A1 (ofT y) ∧ ((A1 = none ∧ c1 = 0) ∨ ∃ b o, A1 = some ⟨b, o, none⟩)) ∧ Below w.heap.size w w' := of_bx B y d w h.2.2.2.2.2 hn

/-- the contracts, as the law calls them -/
theorem of_v (p q : Nat) (A : Option Addr) (x : List (Nat × Nat)) (c : Nat) (B : Option Addr) (y : List (Nat × Nat)) (d : Nat) (X : List Tup) (w : World) (h : BX p q A x c B y d w) (hn : x.length ≤ maxLen) (hX : ofT x = X) :
    Calls Try.prog 18 #[.agg #[.slice A x.length c]] w fun e w' => (∃ A1 c1, e = .returned (.slice A1 X.length c1) ∧ Row w' A1 X) ∧ Below w.heap.size w w' := by
  subst hX
  refine (of_bx A x c w h.2.2.2.2.1 hn).mono fun e w' h => ?_
  obtain ⟨⟨A1, c1, e1, h1, -⟩, h2⟩ := h
  exact ⟨⟨A1, c1, e1, h1⟩, h2⟩
theorem tsorted_v (A : Option Addr) (l a : List Tup) (c : Nat) (w : World) (hR : Row w A l) (hA : (A = none ∧ c = 0) ∨ ∃ b o, A = some ⟨b, o, none⟩) (hn : l.length ≤ 20) (h : srt cmpT l = a) :
    Calls Try.prog 19 #[.slice A l.length c] w fun e w' => (∃ A1, e = .returned (.slice A1 a.length a.length) ∧ Row w' A1 a ∧ ((A1 = none ∧ a.length = 0) ∨ ∃ b o, A1 = some ⟨b, o, none⟩)) ∧ Below w.heap.size w w' := by
  subst h
  refine (tsorted A l c w hR hA (by omega)).mono fun e w' h => ?_
  obtain ⟨A1, h1, h2, h3, h4, h5⟩ := h
  exact ⟨⟨A1, h1, h2, list_shape h4 h5⟩, h3.toBelow⟩
theorem rsorted_v (A : Option Addr) (l a : List Tup) (c : Nat) (w : World) (hR : Row w A l) (hF : ∀ x ∈ l, Fits x) (hn : l.length ≤ 20) (h : srt cmpT l = a) :
    Calls Try.prog 21 #[.slice A l.length c] w fun e w' => (∃ A1 c1, e = .returned (.slice A1 a.length c1) ∧ Row w' A1 a) ∧ Below w.heap.size w w' := by
  subst h
  refine (rsorted A l c w hR hF (by omega)).mono fun e w' h => ?_
  obtain ⟨v, rfl, ho, hg⟩ := h
  obtain ⟨A1, c1, rfl, hR1, -, -⟩ := ho.row
  exact ⟨⟨A1, c1, rfl, hR1⟩, hg.toBelow⟩
theorem tis_b (A : Option Addr) (l : List Tup) (c : Nat) (v : Bool) (w : World) (hR : Row w A l) (hn : l.length ≤ 20) (hv : isB cmpT l = v) :
    Calls Try.prog 22 #[.slice A l.length c] w fun e w' => e = .returned (.bool v) ∧ Below w.heap.size w w' :=
  (tis_v A l c v w hR (Nat.le_trans hn (by decide)) hv).mono fun _ _ h => ⟨h.1, h.2.toBelow⟩
theorem ris_b (A : Option Addr) (l : List Tup) (c : Nat) (v : Bool) (w : World) (hR : Row w A l) (hF : ∀ x ∈ l, Fits x) (hn : l.length ≤ 20) (hv : isB cmpT l = v) :
    Calls Try.prog 23 #[.slice A l.length c] w fun e w' => e = .returned (.int .i64 (if v = true then 1 else 0)) ∧ Below w.heap.size w w' := by
  refine (ris A l c w hR hF (Nat.le_trans hn (by decide))).mono fun _ _ h => ⟨?_, h.2.toBelow⟩
  rw [h.1]; unfold isI; rw [hv]
theorem rsome_v (A B : Option Addr) (x y u : List Tup) (ca cb : Nat) (a c b : Bool) (w : World) (hR : Row w A x) (hS : Row w B y) (hF : ∀ t ∈ x, Fits t) (hG : ∀ t ∈ y, Fits t) (hx : x.length ≤ 20) (hy : y.length ≤ 20) (h : someL x y a c b = u) :
    Calls Try.prog 27 #[.slice A x.length ca, .slice B y.length cb, .bool a, .bool c, .bool b] w fun e w' => (∃ A1 c1, e = .returned (.slice A1 u.length c1) ∧ Row w' A1 u) ∧ Below w.heap.size w w' := by
  subst h
  refine (rsome A B x y ca cb a c b w hR hS hF hG (by omega) (by omega)).mono fun e w' h => ?_
  obtain ⟨v, rfl, ho, hg⟩ := h
  obtain ⟨A1, c1, rfl, hR1, -, -⟩ := ho.row
  exact ⟨⟨A1, c1, rfl, hR1⟩, hg.toBelow⟩
theorem union_v (A B : Option Addr) (la lb u : List Tup) (w : World) (hR : Row w A la) (hS : Row w B lb) (ha : la.length ≤ 20) (hb : lb.length ≤ 20) (h1 : isB cmpT la = true) (h2 : isB cmpT lb = true) (h : chs cmpT (fun p q => p || q) la lb = u) :
    Calls Try.prog 24 #[.slice A la.length la.length, .slice B lb.length lb.length] w fun e w' => (∃ A1, e = .returned (.tuple #[.slice A1 u.length u.length, .int .i64 0]) ∧ Row w' A1 u) ∧ Below w.heap.size w w' := by
  subst h
  refine (union_yes A B la lb _ _ w hR hS (Nat.le_refl _) (Nat.le_refl _) (by omega) (by omega) h1 h2).mono fun e w' h => ?_
  obtain ⟨A1, h1, h2, h3, -, -⟩ := h
  exact ⟨⟨A1, h1, h2⟩, h3.toBelow⟩
theorem common_v (A B : Option Addr) (la lb u : List Tup) (w : World) (hR : Row w A la) (hS : Row w B lb) (ha : la.length ≤ 20) (hb : lb.length ≤ 20) (h1 : isB cmpT la = true) (h2 : isB cmpT lb = true) (h : chs cmpT (fun p q => p && q) la lb = u) :
    Calls Try.prog 25 #[.slice A la.length la.length, .slice B lb.length lb.length] w fun e w' => (∃ A1, e = .returned (.tuple #[.slice A1 u.length u.length, .int .i64 0]) ∧ Row w' A1 u) ∧ Below w.heap.size w w' := by
  subst h
  refine (common_yes A B la lb _ _ w hR hS (Nat.le_refl _) (Nat.le_refl _) (by omega) (by omega) h1 h2).mono fun e w' h => ?_
  obtain ⟨A1, h1, h2, h3, -, -⟩ := h
  exact ⟨⟨A1, h1, h2⟩, h3.toBelow⟩
theorem without_v (A B : Option Addr) (la lb u : List Tup) (w : World) (hR : Row w A la) (hS : Row w B lb) (ha : la.length ≤ 20) (hb : lb.length ≤ 20) (h1 : isB cmpT la = true) (h2 : isB cmpT lb = true) (h : chs cmpT (fun p q => p && !q) la lb = u) :
    Calls Try.prog 26 #[.slice A la.length la.length, .slice B lb.length lb.length] w fun e w' => (∃ A1, e = .returned (.tuple #[.slice A1 u.length u.length, .int .i64 0]) ∧ Row w' A1 u) ∧ Below w.heap.size w w' := by
  subst h
  refine (without_yes A B la lb _ _ w hR hS (Nat.le_refl _) (Nat.le_refl _) (by omega) (by omega) h1 h2).mono fun e w' h => ?_
  obtain ⟨A1, h1, h2, h3, -, -⟩ := h
  exact ⟨⟨A1, h1, h2⟩, h3.toBelow⟩

set_option maxRecDepth 100000 in
set_option maxHeartbeats 16000000 in
theorem sorted_walk (A B : Option Addr) (x y : List (Nat × Nat)) (c d : Nat) (w : World) (hR : RowN w A x) (hS : RowN w B y) (hx : x.length ≤ maxLen) (hy : y.length ≤ maxLen) :
    Calls Try.prog 5 #[.agg #[.slice A x.length c], .agg #[.slice B y.length d]] w fun e w' => e = .returned (.bool true) ∧ Below w.heap.size w w' := by
  have hmx := mixed
  go_enter Try.func5, Try.ntmps5
  have HX := hid hx
  have HY := hid hy
  clear hx hy
  go_upto_region 1 with fail
  go_cut [5, 6] (fun u v wx => ∃ A1 c1 B1 d1, u = .slice A1 (ofT x).length c1 ∧ v = .slice B1 (ofT y).length d1 ∧ Row wx A1 (ofT x) ∧ Row wx B1 (ofT y) ∧ ((A1 = none ∧ c1 = 0) ∨ ∃ b o, A1 = some ⟨b, o, none⟩) ∧ ((B1 = none ∧ d1 = 0) ∨ ∃ b o, B1 = some ⟨b, o, none⟩) ∧ BX w.heap.size (w.heap.size + 1) A x c B y d wx ∧ Below w.heap.size w wx)
  case first =>
    have hB : Below w.heap.size w ((w.alloc (.cells #[.slice A x.length c] 44)).alloc (.cells #[.slice B y.length d] 44)) := g_alloc (g_alloc g_refl _) _
    have h0 : BX w.heap.size (w.heap.size + 1) A x c B y d ((w.alloc (.cells #[.slice A x.length c] 44)).alloc (.cells #[.slice B y.length d] 44)) := by
      simp only [BX]
      exact ⟨by go_simp, by go_simp, by simp; omega, by simp, hR.below (g_alloc (g_alloc g_refl _) _), hS.below (g_alloc (g_alloc g_refl _) _)⟩
    generalize ((w.alloc (.cells #[.slice A x.length c] 44)).alloc (.cells #[.slice B y.length d] 44)) = W0 at *
    clear hR hS
    unfold BX at h0
    go_region_held3 (fun wx => wx.cell? ⟨w.heap.size, 0, none⟩ = some (.slice A x.length c) ∧ wx.cell? ⟨w.heap.size + 1, 0, none⟩ = some (.slice B y.length d) ∧ w.heap.size < wx.heap.size ∧ w.heap.size + 1 < wx.heap.size ∧ RowN wx A x ∧ RowN wx B y) (first | assumption | exact bx_keep (by assumption) (by assumption))
      (first | (go_at_call 18; with_reducible refine Calls.mono (of_b1 w.heap.size (w.heap.size + 1) A x c B y d _ (by assumption) HX.out) ?_; rintro e w' ⟨⟨A1, c1, rfl, hRx, hsx⟩, hgx⟩) | (go_at_call 18; with_reducible refine Calls.mono (of_b2 w.heap.size (w.heap.size + 1) A x c B y d _ (by assumption) HY.out) ?_; rintro e w' ⟨⟨B1, d1, rfl, hRy, hsy⟩, hgy⟩))
    all_goals
      go_wp2_with fail
      go_meet
      refine ⟨A1, c1, B1, d1, rfl, rfl, ?_, ?_, hsx, hsy, ?_, ?_⟩
      · first | exact hRx | exact hRx.below hgy
      · first | exact hRy | exact hRy.below hgx
      · unfold BX; assumption
      · first | exact g_trans (g_trans (g_drew hB) hgx) hgy | exact g_trans (g_trans (g_drew hB) hgy) hgx
  case rest =>
    obtain ⟨Ap, cp, Aq, dq, rfl, rfl, hRp, hRq, hsp, hsq, hBX, hB⟩ := hcut
    have HBX0 := hid hBX
    have HB0 := hid hB
    have HP0 := hid hRp
    have HQ0 := hid hRq
    have HSP := hid hsp
    have HSQ := hid hsq
    clear hBX hB hRp hRq hsp hsq hR hS
    have lX := ofT_len x
    have lY := ofT_len y
    have fX := ofT_fits x
    have fY := ofT_fits y
    obtain ⟨X, hX⟩ : ∃ X, ofT x = X := ⟨_, rfl⟩
    obtain ⟨Y, hY⟩ : ∃ Y, ofT y = Y := ⟨_, rfl⟩
    rw [hX] at lX fX HP0
    rw [hY] at lY fY HQ0
    rw [hX, hY]
    have EX := hid hX
    have FX := hid fX
    obtain ⟨a, ha⟩ : ∃ a, srt cmpT X = a := ⟨_, rfl⟩
    obtain ⟨b, hb⟩ : ∃ b, srt cmpT Y = b := ⟨_, rfl⟩
    have la : a.length ≤ 20 := by rw [← ha]; exact Nat.le_trans (length_srt _) lX
    have lb : b.length ≤ 20 := by rw [← hb]; exact Nat.le_trans (length_srt _) lY
    have FA := hid (show ∀ t ∈ a, Fits t by rw [← ha]; exact srt_fits fX)
    have FB := hid (show ∀ t ∈ b, Fits t by rw [← hb]; exact srt_fits fY)
    have IA := hid (show isB cmpT a = true by rw [← ha]; exact srt_isB X)
    have IB := hid (show isB cmpT b = true by rw [← hb]; exact srt_isB Y)
    have aA : Asc cmpT a := (isB_asc tot a).1 IA.out
    have aB : Asc cmpT b := (isB_asc tot b).1 IB.out
    have SA := hid (srt_self tot aA)
    have EA := hid ha
    have EB := hid hb
    obtain ⟨u, hu⟩ : ∃ u, chs cmpT (fun p q => p || q) a b = u := ⟨_, rfl⟩
    obtain ⟨m, hm⟩ : ∃ m, chs cmpT (fun p q => p && q) a b = m := ⟨_, rfl⟩
    obtain ⟨o, ho⟩ : ∃ o, chs cmpT (fun p q => p && !q) a b = o := ⟨_, rfl⟩
    have lu : u.length ≤ 40 := by rw [← hu]; have := chs_len (fun p q => p || q) aA aB; omega
    have lm : m.length ≤ 40 := by rw [← hm]; have := chs_len (fun p q => p && q) aA aB; omega
    have lo : o.length ≤ 40 := by rw [← ho]; have := chs_len (fun p q => p && !q) aA aB; omega
    have U1 := hid hu
    have M1 := hid hm
    have O1 := hid ho
    have U2 := hid (show someL a b true true true = u by rw [← hu]; exact (chs_some _ true true true aA aB (by decide)).symm)
    have M2 := hid (show someL a b false true false = m by rw [← hm]; exact (chs_some _ false true false aA aB (by decide)).symm)
    have O2 := hid (show someL a b true false false = o by rw [← ho]; exact (chs_some _ true false false aA aB (by decide)).symm)
    have U3 := hid (show chs cmpT (fun p q => p || q) b a = u by rw [← hu]; exact (chs_swap aA aB).symm)
    obtain ⟨z, hz⟩ : ∃ z, isB cmpT X = z := ⟨_, rfl⟩
    have HZ := hid hz
    clear hX hY fX fY ha hb hu hm ho aA aB hz
    go_wp2_with fail
    refine (tsorted_v Ap X a cp _ HP0.out HSP.out lX EA.out).mono ?_
    rintro e w1 ⟨⟨Aa, rfl, hRa, hsa⟩, hw1⟩
    have HBX1 := hid (HBX0.out.keep hw1)
    have HB1 := hid (g_trans HB0.out hw1)
    have HP1 := hid (HP0.out.below hw1)
    have HQ1 := hid (HQ0.out.below hw1)
    clear hw1 HBX0 HB0 HP0 HQ0
    have HA1 := hid hRa
    clear hRa
    have HSA := hid hsa
    clear hsa
    go_wp2_with fail
    refine (tsorted_v Aq Y b dq _ HQ1.out HSQ.out lY EB.out).mono ?_
    rintro e w2 ⟨⟨Ab, rfl, hRb, hsb⟩, hw2⟩
    have HBX2 := hid (HBX1.out.keep hw2)
    have HB2 := hid (g_trans HB1.out hw2)
    have HP2 := hid (HP1.out.below hw2)
    have HQ2 := hid (HQ1.out.below hw2)
    have HA2 := hid (HA1.out.below hw2)
    clear hw2 HBX1 HB1 HP1 HQ1 HA1
    have HBB2 := hid hRb
    clear hRb
    clear hsb
    clear HQ2
    obtain ⟨b0, b1, b2, b3, b4, b5⟩ := HBX2.out
    go_wp2_with fail
    clear b0 b1 b2 b3 b4 b5
    refine (of_v w.heap.size (w.heap.size + 1) A x c B y d X _ HBX2.out HX.out EX.out).mono ?_
    rintro e w3 ⟨⟨A3, c3, rfl, hR3⟩, hw3⟩
    have HBX3 := hid (HBX2.out.keep hw3)
    have HB3 := hid (g_trans HB2.out hw3)
    have HP3 := hid (HP2.out.below hw3)
    have HA3 := hid (HA2.out.below hw3)
    have HBB3 := hid (HBB2.out.below hw3)
    clear hw3 HBX2 HB2 HP2 HA2 HBB2
    have HT3 := hid hR3
    clear hR3
    go_wp2_with fail
    refine (rsorted_v A3 X a c3 _ HT3.out FX.out lX EA.out).mono ?_
    rintro e w4 ⟨⟨A4, c4, rfl, hR4⟩, hw4⟩
    have HBX4 := hid (HBX3.out.keep hw4)
    have HB4 := hid (g_trans HB3.out hw4)
    have HP4 := hid (HP3.out.below hw4)
    have HA4 := hid (HA3.out.below hw4)
    have HBB4 := hid (HBB3.out.below hw4)
    have HT4 := hid (HT3.out.below hw4)
    clear hw4 HBX3 HB3 HP3 HA3 HBB3 HT3
    have HV4 := hid hR4
    clear hR4
    clear HT4
    go_wp2_with fail
    refine (rsame_one Aa A4 a a a.length c4 _ HA4.out HV4.out (by omega) rfl).mono ?_
    rintro e w5 ⟨rfl, hw5⟩
    have HBX5 := hid (HBX4.out.keep hw5)
    have HB5 := hid (g_trans HB4.out hw5)
    have HP5 := hid (HP4.out.below hw5)
    have HA5 := hid (HA4.out.below hw5)
    have HBB5 := hid (HBB4.out.below hw5)
    have HV5 := hid (HV4.out.below hw5)
    clear hw5 HBX4 HB4 HP4 HA4 HBB4 HV4
    clear HV5
    obtain ⟨b0, b1, b2, b3, b4, b5⟩ := HBX5.out
    go_wp2_with fail
    clear b0 b1 b2 b3 b4 b5
    refine (of_v w.heap.size (w.heap.size + 1) A x c B y d X _ HBX5.out HX.out EX.out).mono ?_
    rintro e w6 ⟨⟨A6, c6, rfl, hR6⟩, hw6⟩
    have HBX6 := hid (HBX5.out.keep hw6)
    have HB6 := hid (g_trans HB5.out hw6)
    have HP6 := hid (HP5.out.below hw6)
    have HA6 := hid (HA5.out.below hw6)
    have HBB6 := hid (HBB5.out.below hw6)
    clear hw6 HBX5 HB5 HP5 HA5 HBB5
    have HT6 := hid hR6
    clear hR6
    go_wp2_with fail
    refine (rsame_one Ap A6 X X cp c6 _ HP6.out HT6.out (by omega) rfl).mono ?_
    rintro e w7 ⟨rfl, hw7⟩
    have HBX7 := hid (HBX6.out.keep hw7)
    have HB7 := hid (g_trans HB6.out hw7)
    have HP7 := hid (HP6.out.below hw7)
    have HA7 := hid (HA6.out.below hw7)
    have HBB7 := hid (HBB6.out.below hw7)
    have HT7 := hid (HT6.out.below hw7)
    clear hw7 HBX6 HB6 HP6 HA6 HBB6 HT6
    clear HT7
    clear HBX7
    go_wp2_with fail
    refine (tis_b Aa a a.length true _ HA7.out la IA.out).mono ?_
    rintro e w8 ⟨rfl, hw8⟩
    have HB8 := hid (g_trans HB7.out hw8)
    have HP8 := hid (HP7.out.below hw8)
    have HA8 := hid (HA7.out.below hw8)
    have HBB8 := hid (HBB7.out.below hw8)
    clear hw8 HB7 HP7 HA7 HBB7
    go_wp2_with fail
    refine (tis_b Ap X cp z _ HP8.out lX HZ.out).mono ?_
    rintro e w9 ⟨rfl, hw9⟩
    have HB9 := hid (g_trans HB8.out hw9)
    have HP9 := hid (HP8.out.below hw9)
    have HA9 := hid (HA8.out.below hw9)
    have HBB9 := hid (HBB8.out.below hw9)
    clear hw9 HB8 HP8 HA8 HBB8
    go_wp2_with fail
    refine (ris_b Ap X cp z _ HP9.out FX.out lX HZ.out).mono ?_
    rintro e w10 ⟨rfl, hw10⟩
    have HB10 := hid (g_trans HB9.out hw10)
    have HP10 := hid (HP9.out.below hw10)
    have HA10 := hid (HA9.out.below hw10)
    have HBB10 := hid (HBB9.out.below hw10)
    clear hw10 HB9 HP9 HA9 HBB9
    cases z
    · simp only [Bool.false_eq_true, if_false]
      go_wp2_with fail
      refine (tsorted_v Aa a a a.length _ HA10.out HSA.out la SA.out).mono ?_
      rintro e w11 ⟨⟨A11, rfl, hR11, hs11⟩, hw11⟩
      have HB11 := hid (g_trans HB10.out hw11)
      have HP11 := hid (HP10.out.below hw11)
      have HA11 := hid (HA10.out.below hw11)
      have HBB11 := hid (HBB10.out.below hw11)
      clear hw11 HB10 HP10 HA10 HBB10
      have HT11 := hid hR11
      clear hR11
      clear hs11
      go_wp2_with fail
      refine (rsame_one A11 Aa a a a.length a.length _ HT11.out HA11.out (by omega) rfl).mono ?_
      rintro e w12 ⟨rfl, hw12⟩
      have HB12 := hid (g_trans HB11.out hw12)
      have HP12 := hid (HP11.out.below hw12)
      have HA12 := hid (HA11.out.below hw12)
      have HBB12 := hid (HBB11.out.below hw12)
      have HT12 := hid (HT11.out.below hw12)
      clear hw12 HB11 HP11 HA11 HBB11 HT11
      clear HT12
      go_wp2_with fail
      refine (union_v Aa Ab a b u _ HA12.out HBB12.out la lb IA.out IB.out U1.out).mono ?_
      rintro e w13 ⟨⟨Au, rfl, hRu⟩, hw13⟩
      have HB13 := hid (g_trans HB12.out hw13)
      have HP13 := hid (HP12.out.below hw13)
      have HA13 := hid (HA12.out.below hw13)
      have HBB13 := hid (HBB12.out.below hw13)
      clear hw13 HB12 HP12 HA12 HBB12
      have HU13 := hid hRu
      clear hRu
      go_wp2_with fail
      refine (common_v Aa Ab a b m _ HA13.out HBB13.out la lb IA.out IB.out M1.out).mono ?_
      rintro e w14 ⟨⟨Am, rfl, hRm⟩, hw14⟩
      have HB14 := hid (g_trans HB13.out hw14)
      have HP14 := hid (HP13.out.below hw14)
      have HA14 := hid (HA13.out.below hw14)
      have HBB14 := hid (HBB13.out.below hw14)
      have HU14 := hid (HU13.out.below hw14)
      clear hw14 HB13 HP13 HA13 HBB13 HU13
      have HM14 := hid hRm
      clear hRm
      go_wp2_with fail
      refine (without_v Aa Ab a b o _ HA14.out HBB14.out la lb IA.out IB.out O1.out).mono ?_
      rintro e w15 ⟨⟨Ao, rfl, hRo⟩, hw15⟩
      have HB15 := hid (g_trans HB14.out hw15)
      have HP15 := hid (HP14.out.below hw15)
      have HA15 := hid (HA14.out.below hw15)
      have HBB15 := hid (HBB14.out.below hw15)
      have HU15 := hid (HU14.out.below hw15)
      have HM15 := hid (HM14.out.below hw15)
      clear hw15 HB14 HP14 HA14 HBB14 HU14 HM14
      have HO15 := hid hRo
      clear hRo
      go_wp2_with fail
      refine (union_v Ab Aa b a u _ HBB15.out HA15.out lb la IB.out IA.out U3.out).mono ?_
      rintro e w16 ⟨⟨Av, rfl, hRv⟩, hw16⟩
      have HB16 := hid (g_trans HB15.out hw16)
      have HP16 := hid (HP15.out.below hw16)
      have HA16 := hid (HA15.out.below hw16)
      have HBB16 := hid (HBB15.out.below hw16)
      have HU16 := hid (HU15.out.below hw16)
      have HM16 := hid (HM15.out.below hw16)
      have HO16 := hid (HO15.out.below hw16)
      clear hw16 HB15 HP15 HA15 HBB15 HU15 HM15 HO15
      have HW16 := hid hRv
      clear hRv
      go_wp2_with fail
      refine (rsome_v Aa Ab a b u a.length b.length true true true _ HA16.out HBB16.out FA.out FB.out la lb U2.out).mono ?_
      rintro e w17 ⟨⟨A20, c20, rfl, hR20⟩, hw17⟩
      have HB17 := hid (g_trans HB16.out hw17)
      have HP17 := hid (HP16.out.below hw17)
      have HA17 := hid (HA16.out.below hw17)
      have HBB17 := hid (HBB16.out.below hw17)
      have HU17 := hid (HU16.out.below hw17)
      have HM17 := hid (HM16.out.below hw17)
      have HO17 := hid (HO16.out.below hw17)
      have HW17 := hid (HW16.out.below hw17)
      clear hw17 HB16 HP16 HA16 HBB16 HU16 HM16 HO16 HW16
      have HT17 := hid hR20
      clear hR20
      go_wp2_with fail
      refine (rsame_one Au A20 u u u.length c20 _ HU17.out HT17.out (by omega) rfl).mono ?_
      rintro e w18 ⟨rfl, hw18⟩
      have HB18 := hid (g_trans HB17.out hw18)
      have HP18 := hid (HP17.out.below hw18)
      have HA18 := hid (HA17.out.below hw18)
      have HBB18 := hid (HBB17.out.below hw18)
      have HU18 := hid (HU17.out.below hw18)
      have HM18 := hid (HM17.out.below hw18)
      have HO18 := hid (HO17.out.below hw18)
      have HW18 := hid (HW17.out.below hw18)
      have HT18 := hid (HT17.out.below hw18)
      clear hw18 HB17 HP17 HA17 HBB17 HU17 HM17 HO17 HW17 HT17
      clear HT18
      go_wp2_with fail
      refine (rsome_v Aa Ab a b m a.length b.length false true false _ HA18.out HBB18.out FA.out FB.out la lb M2.out).mono ?_
      rintro e w19 ⟨⟨A20, c20, rfl, hR20⟩, hw19⟩
      have HB19 := hid (g_trans HB18.out hw19)
      have HP19 := hid (HP18.out.below hw19)
      have HA19 := hid (HA18.out.below hw19)
      have HBB19 := hid (HBB18.out.below hw19)
      have HU19 := hid (HU18.out.below hw19)
      have HM19 := hid (HM18.out.below hw19)
      have HO19 := hid (HO18.out.below hw19)
      have HW19 := hid (HW18.out.below hw19)
      clear hw19 HB18 HP18 HA18 HBB18 HU18 HM18 HO18 HW18
      have HT19 := hid hR20
      clear hR20
      go_wp2_with fail
      refine (rsame_one Am A20 m m m.length c20 _ HM19.out HT19.out (by omega) rfl).mono ?_
      rintro e w20 ⟨rfl, hw20⟩
      have HB20 := hid (g_trans HB19.out hw20)
      have HP20 := hid (HP19.out.below hw20)
      have HA20 := hid (HA19.out.below hw20)
      have HBB20 := hid (HBB19.out.below hw20)
      have HU20 := hid (HU19.out.below hw20)
      have HM20 := hid (HM19.out.below hw20)
      have HO20 := hid (HO19.out.below hw20)
      have HW20 := hid (HW19.out.below hw20)
      have HT20 := hid (HT19.out.below hw20)
      clear hw20 HB19 HP19 HA19 HBB19 HU19 HM19 HO19 HW19 HT19
      clear HT20
      go_wp2_with fail
      refine (rsome_v Aa Ab a b o a.length b.length true false false _ HA20.out HBB20.out FA.out FB.out la lb O2.out).mono ?_
      rintro e w21 ⟨⟨A20, c20, rfl, hR20⟩, hw21⟩
      have HB21 := hid (g_trans HB20.out hw21)
      have HP21 := hid (HP20.out.below hw21)
      have HA21 := hid (HA20.out.below hw21)
      have HBB21 := hid (HBB20.out.below hw21)
      have HU21 := hid (HU20.out.below hw21)
      have HM21 := hid (HM20.out.below hw21)
      have HO21 := hid (HO20.out.below hw21)
      have HW21 := hid (HW20.out.below hw21)
      clear hw21 HB20 HP20 HA20 HBB20 HU20 HM20 HO20 HW20
      have HT21 := hid hR20
      clear hR20
      go_wp2_with fail
      refine (rsame_one Ao A20 o o o.length c20 _ HO21.out HT21.out (by omega) rfl).mono ?_
      rintro e w22 ⟨rfl, hw22⟩
      have HB22 := hid (g_trans HB21.out hw22)
      have HP22 := hid (HP21.out.below hw22)
      have HA22 := hid (HA21.out.below hw22)
      have HBB22 := hid (HBB21.out.below hw22)
      have HU22 := hid (HU21.out.below hw22)
      have HM22 := hid (HM21.out.below hw22)
      have HO22 := hid (HO21.out.below hw22)
      have HW22 := hid (HW21.out.below hw22)
      have HT22 := hid (HT21.out.below hw22)
      clear hw22 HB21 HP21 HA21 HBB21 HU21 HM21 HO21 HW21 HT21
      clear HT22
      go_wp2_with fail
      refine (rsame_one Au Av u u u.length u.length _ HU22.out HW22.out (by omega) rfl).mono ?_
      rintro e w23 ⟨rfl, hw23⟩
      have HB23 := hid (g_trans HB22.out hw23)
      have HP23 := hid (HP22.out.below hw23)
      have HA23 := hid (HA22.out.below hw23)
      have HBB23 := hid (HBB22.out.below hw23)
      have HU23 := hid (HU22.out.below hw23)
      have HM23 := hid (HM22.out.below hw23)
      have HO23 := hid (HO22.out.below hw23)
      have HW23 := hid (HW22.out.below hw23)
      clear hw23 HB22 HP22 HA22 HBB22 HU22 HM22 HO22 HW22
      go_wp2_with fail
      refine (rsorted_v Ap X a cp _ HP23.out FX.out lX EA.out).mono ?_
      rintro e w24 ⟨⟨A30, c30, rfl, hR30⟩, hw24⟩
      have HB24 := hid (g_trans HB23.out hw24)
      have HP24 := hid (HP23.out.below hw24)
      have HA24 := hid (HA23.out.below hw24)
      have HBB24 := hid (HBB23.out.below hw24)
      have HU24 := hid (HU23.out.below hw24)
      have HM24 := hid (HM23.out.below hw24)
      have HO24 := hid (HO23.out.below hw24)
      have HW24 := hid (HW23.out.below hw24)
      clear hw24 HB23 HP23 HA23 HBB23 HU23 HM23 HO23 HW23
      have HT24 := hid hR30
      clear hR30
      go_wp2_with fail
      refine (rsame_one Aa A30 a a a.length c30 _ HA24.out HT24.out (by omega) rfl).mono ?_
      rintro e w25 ⟨rfl, hw25⟩
      have HB25 := hid (g_trans HB24.out hw25)
      have HP25 := hid (HP24.out.below hw25)
      have HA25 := hid (HA24.out.below hw25)
      have HBB25 := hid (HBB24.out.below hw25)
      have HU25 := hid (HU24.out.below hw25)
      have HM25 := hid (HM24.out.below hw25)
      have HO25 := hid (HO24.out.below hw25)
      have HW25 := hid (HW24.out.below hw25)
      have HT25 := hid (HT24.out.below hw25)
      clear hw25 HB24 HP24 HA24 HBB24 HU24 HM24 HO24 HW24 HT24
      go_wp2_with fail
      refine (lives_any _).mono ?_
      rintro e w26 ⟨rfl, hw26⟩
      have HB26 := hid (g_trans HB25.out hw26)
      have HP26 := hid (HP25.out.below hw26)
      have HA26 := hid (HA25.out.below hw26)
      have HBB26 := hid (HBB25.out.below hw26)
      have HU26 := hid (HU25.out.below hw26)
      have HM26 := hid (HM25.out.below hw26)
      have HO26 := hid (HO25.out.below hw26)
      have HW26 := hid (HW25.out.below hw26)
      have HT26 := hid (HT25.out.below hw26)
      clear hw26 HB25 HP25 HA25 HBB25 HU25 HM25 HO25 HW25 HT25
      go_wp2
      go_ret
      exact ⟨rfl, HB26.out⟩
    · simp only [if_true]
      go_wp2_with fail
      refine (tsorted_v Aa a a a.length _ HA10.out HSA.out la SA.out).mono ?_
      rintro e w11 ⟨⟨A11, rfl, hR11, hs11⟩, hw11⟩
      have HB11 := hid (g_trans HB10.out hw11)
      have HP11 := hid (HP10.out.below hw11)
      have HA11 := hid (HA10.out.below hw11)
      have HBB11 := hid (HBB10.out.below hw11)
      clear hw11 HB10 HP10 HA10 HBB10
      have HT11 := hid hR11
      clear hR11
      clear hs11
      go_wp2_with fail
      refine (rsame_one A11 Aa a a a.length a.length _ HT11.out HA11.out (by omega) rfl).mono ?_
      rintro e w12 ⟨rfl, hw12⟩
      have HB12 := hid (g_trans HB11.out hw12)
      have HP12 := hid (HP11.out.below hw12)
      have HA12 := hid (HA11.out.below hw12)
      have HBB12 := hid (HBB11.out.below hw12)
      have HT12 := hid (HT11.out.below hw12)
      clear hw12 HB11 HP11 HA11 HBB11 HT11
      clear HT12
      go_wp2_with fail
      refine (union_v Aa Ab a b u _ HA12.out HBB12.out la lb IA.out IB.out U1.out).mono ?_
      rintro e w13 ⟨⟨Au, rfl, hRu⟩, hw13⟩
      have HB13 := hid (g_trans HB12.out hw13)
      have HP13 := hid (HP12.out.below hw13)
      have HA13 := hid (HA12.out.below hw13)
      have HBB13 := hid (HBB12.out.below hw13)
      clear hw13 HB12 HP12 HA12 HBB12
      have HU13 := hid hRu
      clear hRu
      go_wp2_with fail
      refine (common_v Aa Ab a b m _ HA13.out HBB13.out la lb IA.out IB.out M1.out).mono ?_
      rintro e w14 ⟨⟨Am, rfl, hRm⟩, hw14⟩
      have HB14 := hid (g_trans HB13.out hw14)
      have HP14 := hid (HP13.out.below hw14)
      have HA14 := hid (HA13.out.below hw14)
      have HBB14 := hid (HBB13.out.below hw14)
      have HU14 := hid (HU13.out.below hw14)
      clear hw14 HB13 HP13 HA13 HBB13 HU13
      have HM14 := hid hRm
      clear hRm
      go_wp2_with fail
      refine (without_v Aa Ab a b o _ HA14.out HBB14.out la lb IA.out IB.out O1.out).mono ?_
      rintro e w15 ⟨⟨Ao, rfl, hRo⟩, hw15⟩
      have HB15 := hid (g_trans HB14.out hw15)
      have HP15 := hid (HP14.out.below hw15)
      have HA15 := hid (HA14.out.below hw15)
      have HBB15 := hid (HBB14.out.below hw15)
      have HU15 := hid (HU14.out.below hw15)
      have HM15 := hid (HM14.out.below hw15)
      clear hw15 HB14 HP14 HA14 HBB14 HU14 HM14
      have HO15 := hid hRo
      clear hRo
      go_wp2_with fail
      refine (union_v Ab Aa b a u _ HBB15.out HA15.out lb la IB.out IA.out U3.out).mono ?_
      rintro e w16 ⟨⟨Av, rfl, hRv⟩, hw16⟩
      have HB16 := hid (g_trans HB15.out hw16)
      have HP16 := hid (HP15.out.below hw16)
      have HA16 := hid (HA15.out.below hw16)
      have HBB16 := hid (HBB15.out.below hw16)
      have HU16 := hid (HU15.out.below hw16)
      have HM16 := hid (HM15.out.below hw16)
      have HO16 := hid (HO15.out.below hw16)
      clear hw16 HB15 HP15 HA15 HBB15 HU15 HM15 HO15
      have HW16 := hid hRv
      clear hRv
      go_wp2_with fail
      refine (rsome_v Aa Ab a b u a.length b.length true true true _ HA16.out HBB16.out FA.out FB.out la lb U2.out).mono ?_
      rintro e w17 ⟨⟨A20, c20, rfl, hR20⟩, hw17⟩
      have HB17 := hid (g_trans HB16.out hw17)
      have HP17 := hid (HP16.out.below hw17)
      have HA17 := hid (HA16.out.below hw17)
      have HBB17 := hid (HBB16.out.below hw17)
      have HU17 := hid (HU16.out.below hw17)
      have HM17 := hid (HM16.out.below hw17)
      have HO17 := hid (HO16.out.below hw17)
      have HW17 := hid (HW16.out.below hw17)
      clear hw17 HB16 HP16 HA16 HBB16 HU16 HM16 HO16 HW16
      have HT17 := hid hR20
      clear hR20
      go_wp2_with fail
      refine (rsame_one Au A20 u u u.length c20 _ HU17.out HT17.out (by omega) rfl).mono ?_
      rintro e w18 ⟨rfl, hw18⟩
      have HB18 := hid (g_trans HB17.out hw18)
      have HP18 := hid (HP17.out.below hw18)
      have HA18 := hid (HA17.out.below hw18)
      have HBB18 := hid (HBB17.out.below hw18)
      have HU18 := hid (HU17.out.below hw18)
      have HM18 := hid (HM17.out.below hw18)
      have HO18 := hid (HO17.out.below hw18)
      have HW18 := hid (HW17.out.below hw18)
      have HT18 := hid (HT17.out.below hw18)
      clear hw18 HB17 HP17 HA17 HBB17 HU17 HM17 HO17 HW17 HT17
      clear HT18
      go_wp2_with fail
      refine (rsome_v Aa Ab a b m a.length b.length false true false _ HA18.out HBB18.out FA.out FB.out la lb M2.out).mono ?_
      rintro e w19 ⟨⟨A20, c20, rfl, hR20⟩, hw19⟩
      have HB19 := hid (g_trans HB18.out hw19)
      have HP19 := hid (HP18.out.below hw19)
      have HA19 := hid (HA18.out.below hw19)
      have HBB19 := hid (HBB18.out.below hw19)
      have HU19 := hid (HU18.out.below hw19)
      have HM19 := hid (HM18.out.below hw19)
      have HO19 := hid (HO18.out.below hw19)
      have HW19 := hid (HW18.out.below hw19)
      clear hw19 HB18 HP18 HA18 HBB18 HU18 HM18 HO18 HW18
      have HT19 := hid hR20
      clear hR20
      go_wp2_with fail
      refine (rsame_one Am A20 m m m.length c20 _ HM19.out HT19.out (by omega) rfl).mono ?_
      rintro e w20 ⟨rfl, hw20⟩
      have HB20 := hid (g_trans HB19.out hw20)
      have HP20 := hid (HP19.out.below hw20)
      have HA20 := hid (HA19.out.below hw20)
      have HBB20 := hid (HBB19.out.below hw20)
      have HU20 := hid (HU19.out.below hw20)
      have HM20 := hid (HM19.out.below hw20)
      have HO20 := hid (HO19.out.below hw20)
      have HW20 := hid (HW19.out.below hw20)
      have HT20 := hid (HT19.out.below hw20)
      clear hw20 HB19 HP19 HA19 HBB19 HU19 HM19 HO19 HW19 HT19
      clear HT20
      go_wp2_with fail
      refine (rsome_v Aa Ab a b o a.length b.length true false false _ HA20.out HBB20.out FA.out FB.out la lb O2.out).mono ?_
      rintro e w21 ⟨⟨A20, c20, rfl, hR20⟩, hw21⟩
      have HB21 := hid (g_trans HB20.out hw21)
      have HP21 := hid (HP20.out.below hw21)
      have HA21 := hid (HA20.out.below hw21)
      have HBB21 := hid (HBB20.out.below hw21)
      have HU21 := hid (HU20.out.below hw21)
      have HM21 := hid (HM20.out.below hw21)
      have HO21 := hid (HO20.out.below hw21)
      have HW21 := hid (HW20.out.below hw21)
      clear hw21 HB20 HP20 HA20 HBB20 HU20 HM20 HO20 HW20
      have HT21 := hid hR20
      clear hR20
      go_wp2_with fail
      refine (rsame_one Ao A20 o o o.length c20 _ HO21.out HT21.out (by omega) rfl).mono ?_
      rintro e w22 ⟨rfl, hw22⟩
      have HB22 := hid (g_trans HB21.out hw22)
      have HP22 := hid (HP21.out.below hw22)
      have HA22 := hid (HA21.out.below hw22)
      have HBB22 := hid (HBB21.out.below hw22)
      have HU22 := hid (HU21.out.below hw22)
      have HM22 := hid (HM21.out.below hw22)
      have HO22 := hid (HO21.out.below hw22)
      have HW22 := hid (HW21.out.below hw22)
      have HT22 := hid (HT21.out.below hw22)
      clear hw22 HB21 HP21 HA21 HBB21 HU21 HM21 HO21 HW21 HT21
      clear HT22
      go_wp2_with fail
      refine (rsame_one Au Av u u u.length u.length _ HU22.out HW22.out (by omega) rfl).mono ?_
      rintro e w23 ⟨rfl, hw23⟩
      have HB23 := hid (g_trans HB22.out hw23)
      have HP23 := hid (HP22.out.below hw23)
      have HA23 := hid (HA22.out.below hw23)
      have HBB23 := hid (HBB22.out.below hw23)
      have HU23 := hid (HU22.out.below hw23)
      have HM23 := hid (HM22.out.below hw23)
      have HO23 := hid (HO22.out.below hw23)
      have HW23 := hid (HW22.out.below hw23)
      clear hw23 HB22 HP22 HA22 HBB22 HU22 HM22 HO22 HW22
      go_wp2_with fail
      refine (rsorted_v Ap X a cp _ HP23.out FX.out lX EA.out).mono ?_
      rintro e w24 ⟨⟨A30, c30, rfl, hR30⟩, hw24⟩
      have HB24 := hid (g_trans HB23.out hw24)
      have HP24 := hid (HP23.out.below hw24)
      have HA24 := hid (HA23.out.below hw24)
      have HBB24 := hid (HBB23.out.below hw24)
      have HU24 := hid (HU23.out.below hw24)
      have HM24 := hid (HM23.out.below hw24)
      have HO24 := hid (HO23.out.below hw24)
      have HW24 := hid (HW23.out.below hw24)
      clear hw24 HB23 HP23 HA23 HBB23 HU23 HM23 HO23 HW23
      have HT24 := hid hR30
      clear hR30
      go_wp2_with fail
      refine (rsame_one Aa A30 a a a.length c30 _ HA24.out HT24.out (by omega) rfl).mono ?_
      rintro e w25 ⟨rfl, hw25⟩
      have HB25 := hid (g_trans HB24.out hw25)
      have HP25 := hid (HP24.out.below hw25)
      have HA25 := hid (HA24.out.below hw25)
      have HBB25 := hid (HBB24.out.below hw25)
      have HU25 := hid (HU24.out.below hw25)
      have HM25 := hid (HM24.out.below hw25)
      have HO25 := hid (HO24.out.below hw25)
      have HW25 := hid (HW24.out.below hw25)
      have HT25 := hid (HT24.out.below hw25)
      clear hw25 HB24 HP24 HA24 HBB24 HU24 HM24 HO24 HW24 HT24
      go_wp2_with fail
      refine (lives_any _).mono ?_
      rintro e w26 ⟨rfl, hw26⟩
      have HB26 := hid (g_trans HB25.out hw26)
      have HP26 := hid (HP25.out.below hw26)
      have HA26 := hid (HA25.out.below hw26)
      have HBB26 := hid (HBB25.out.below hw26)
      have HU26 := hid (HU25.out.below hw26)
      have HM26 := hid (HM25.out.below hw26)
      have HO26 := hid (HO25.out.below hw26)
      have HW26 := hid (HW25.out.below hw26)
      have HT26 := hid (HT25.out.below hw26)
      clear hw26 HB25 HP25 HA25 HBB25 HU25 HM25 HO25 HW25 HT25
      go_wp2
      go_ret
      exact ⟨rfl, HB26.out⟩

end Go.Proofs.Ythdpagkadcbeiaa
