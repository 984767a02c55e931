/-
  PLAIN FACTS about the law's sets: valid tuples, sorted lists of them, changes and back; calls in the words that the laws want.
  ARGUMENTS AS DATA: a list of pairs of bytes in a struct, and a pair of bytes by value, taken apart.
  ARGUMENTS AS DATA: sets as the laws draw them (a list of pairs and a list of triples of bytes), and three bytes by value.
  THE CONTRACT of the law's S.Of: some list of at most 50 tuples, valid and sorted.
  BLOCKS that a region makes, and stores into: a value of several cells is stored by one law, and the world behind it stands under a name of its own.
  BLOCKS of tuples and of filters that a region makes, and stores into; cells that stay.
  THE CONTRACTS of the reference's Goal and Subject (layer 6).
  THE CONTRACT of the reference's Goals (layer 6); goals and subjects picked, in other words.
  THE CONTRACTS of filters.order, of sort.Search with the closure of search, and of search.
  THE CONTRACTS of filters.Span and Select, and of slices.Clip.
  THE CONTRACTS of the reference's First, Span and Select.
  THE CONTRACT of the reference's Match (layer 6).
  ARGUMENTS AS DATA: a tuple by value, and a slice of tuples, taken apart.
  THE LAW'S FILTERS, for seats that have layer 6: what F.Of gives is valid and fits; ARGUMENTS AS DATA: the law's F by value, and a filter by value, taken apart.
  THE WALK of SetsViews.
  SetsViews: for every set, filter and tuple that the law draws the call returns true, and they read as before. No condition.
-/
import Derived.Test.YtgfgfggoofjeeaaGreatDTLivM
import Derived.Test.YtgfgfggoofjeeaaGreatTOf
import Derived.ProofKit
import Derived.OpenShut
import Derived.ChangeSame
import Derived.Carry
import Derived.Deep.Slices
import Derived.Deep.RegionHeld
import Derived.Deep.MidRow
import Derived.Test.YtgfgfggoofjeeaaGreatTOwn
import Derived.Test.YtgfgfggoofjeeaaGreatDTMap
import Derived.Deep.Onto
import Derived.Test.YtgfgfggoofjeeaaGreatFTak
import Derived.Test.YtgfgfggoofjeeaaGreatFClp
import Derived.Test.YtgfgfggoofjeeaaGreatDTVw
import Derived.Test.YtgfgfggoofjeeaaGreatTRow
import Derived.Test.YtgfgfggoofjeeaaGreatFOf
namespace Go.Proofs.YtgfgfggoofjeeaaGreat.DT
open Go.RowKit Go.Deep

theorem nb_spc (n : Nat) : nb (spc n) = true := by
  unfold spc
  split
  · decide +kernel
  · split <;> decide +kernel
theorem nb_idS (n : Nat) : nb (idS n) = true := by
  unfold idS
  repeat' split
  all_goals decide +kernel
theorem nb_relS (n : Nat) : nb (relS n) = true := by
  unfold relS
  repeat' split
  all_goals decide +kernel
theorem one_ok (p q : Nat) : okT (one p q) = true := by
  unfold one okT okSub
  split
  · simp [nb_spc, nb_idS, nb_relS]
  · simp only [nb_spc, nb_idS, nb_relS, emp]; rfl
theorem ofT_ok (x : List (Nat × Nat)) : ∀ t ∈ ofT x, okT t = true := fun t ht => by
  unfold ofT at ht
  obtain ⟨p, -, rfl⟩ := List.mem_map.1 ht
  exact one_ok _ _
/-- what With makes of a list that has room -/
def nx (l : List Tup) (k : Tup) (d : Bool) : List Tup := if d = true then Tr.del k l else put1 cmpT l k
theorem wth_nx {l : List Tup} {k : Tup} (d : Bool) (ho : okT k = true) (hl : l.length < 4096) : wth l k d = (nx l k d, 0) := by
  unfold wth nx put1
  rw [if_neg (by rw [ho]; decide)]
  cases d
  · simp only [Bool.false_eq_true, if_false]
    by_cases hm : k ∈ l
    · rw [if_pos hm, if_pos hm]
    · rw [if_neg hm, if_neg hm, if_neg (by omega)]
  · rw [if_pos rfl, if_pos rfl]
theorem nx_len (l : List Tup) (k : Tup) (d : Bool) : (nx l k d).length ≤ l.length + 1 := by
  unfold nx put1
  split
  · have := Tr.del_len (k := k) l; omega
  · split
    · omega
    · rw [length_ins]; omega
theorem nx_asc {l : List Tup} (h : Asc cmpT l) (k : Tup) (d : Bool) : Asc cmpT (nx l k d) := by
  unfold nx
  split
  · exact Tr.del_asc h
  · exact put1_asc tot k l h
theorem nx_ok {l : List Tup} (h : ∀ t ∈ l, okT t = true) {k : Tup} (hk : okT k = true) (d : Bool) : ∀ t ∈ nx l k d, okT t = true := by
  unfold nx
  split
  · intro t ht; exact h t (Tr.mem_del.1 ht).1
  · intro t ht
    rcases (put1_mem k t l).1 ht with e | ht
    · rw [e]; exact hk
    · exact h t ht
theorem nx_has (l : List Tup) (k : Tup) (d : Bool) : decide (k ∈ nx l k d) = !d := by
  unfold nx
  cases d
  · rw [if_neg Bool.noConfusion]
    exact decide_eq_true ((put1_mem k k l).2 (.inl rfl))
  · rw [if_pos rfl]
    exact decide_eq_false (fun h => (Tr.mem_del.1 h).2 rfl)
theorem nx_same {l : List Tup} {k : Tup} {d : Bool} (h : decide (k ∈ l) = !d) : nx l k d = l := by
  unfold nx put1
  cases d
  · rw [if_neg Bool.noConfusion, if_pos (of_decide_eq_true h)]
  · rw [if_pos rfl, Tr.del_new (of_decide_eq_false h)]
theorem nx_back {l : List Tup} (hl : Asc cmpT l) {k : Tup} {d : Bool} (h : nx l k d ≠ l) : nx (nx l k d) k (!d) = l := by
  have hk : decide (k ∈ l) = d := by
    cases e : decide (k ∈ l) <;> cases d
    · rfl
    · exact absurd (nx_same (by rw [e]; rfl)) h
    · exact absurd (nx_same (by rw [e]; rfl)) h
    · rfl
  refine Asc.uniq tot (nx_asc (nx_asc hl k d) k _) hl fun t => ?_
  cases d
  · have hk := of_decide_eq_false hk
    have e1 : nx (nx l k false) k (!false) = Tr.del k (put1 cmpT l k) := rfl
    rw [e1, Tr.mem_del, put1_mem]
    constructor
    · rintro ⟨h1 | h1, h2⟩
      · exact absurd h1 h2
      · exact h1
    · intro h1
      exact ⟨.inr h1, fun e => hk (e ▸ h1)⟩
  · have hk := of_decide_eq_true hk
    have e1 : nx (nx l k true) k (!true) = put1 cmpT (Tr.del k l) k := rfl
    rw [e1, put1_mem, Tr.mem_del]
    constructor
    · rintro (h1 | h1)
      · rw [h1]; exact hk
      · exact h1.1
    · intro h1
      by_cases e : t = k
      · exact .inl e
      · exact .inr ⟨h1, e⟩
theorem ofF_srt : ∀ (l acc : List Tup), acc.length + l.length ≤ 4096 → (∀ t ∈ l, okT t = true) → ofF acc l = (l.foldl (put1 cmpT) acc, 0)
  | [], acc, _, _ => rfl
  | k :: t, acc, hn, hv => by
    rw [List.length_cons] at hn
    have e := wth_nx (l := acc) (k := k) false (hv k List.mem_cons_self) (by omega)
    rw [ofF_go (by rw [e]), e, List.foldl_cons]
    have h1 := nx_len acc k false
    exact ofF_srt t _ (by show (nx acc k false).length + t.length ≤ 4096; omega) (fun x hx => hv x (List.mem_cons_of_mem _ hx))
theorem ofF_ofT (x : List (Nat × Nat)) : ofF [] (ofT x) = (srt cmpT (ofT x), 0) := ofF_srt _ _ (by have := ofT_len x; simp; omega) (ofT_ok x)
theorem srt_ok {l : List Tup} (h : ∀ t ∈ l, okT t = true) : ∀ t ∈ srt cmpT l, okT t = true := fun t ht => h t ((mem_srt tot l t).1 ht)
theorem sameI_self (l : List Tup) : sameI l l = 1 := by unfold sameI; rw [if_pos rfl]

/-- a list that a call has made -/
def GivesL1 (w : World) (l : List Tup) (e : Ending) (w' : World) : Prop := ∃ A c, e = .returned (.slice A l.length c) ∧ Row w' A l ∧ Below w.heap.size w w'
theorem of_t (A : Option Addr) (x : List (Nat × Nat)) (c : Nat) (w : World) (hR : RowN w A x) (hn : x.length ≤ maxLen) :
    Calls Tryz.prog 26 #[.agg #[.slice A x.length c]] w (GivesL1 w (ofT x)) :=
  (of_any A x c w hR hn).mono fun _ _ ⟨v, he, hO, hg⟩ => by
    obtain ⟨A', c', e, hR', -, -⟩ := hO.row
    exact ⟨A', c', by rw [he, e], hR', hg.toBelow⟩
theorem rsorted_t (A : Option Addr) (l : List Tup) (c : Nat) (w : World) (hR : Row w A l) (hF : ∀ x ∈ l, Fits x) (hn : l.length ≤ 9000) :
    Calls Tryz.prog 25 #[.slice A l.length c] w (GivesL1 w (srt cmpT l)) :=
  (rsorted A l c w hR hF hn).mono fun _ _ ⟨v, he, hO, hg⟩ => by
    obtain ⟨A', c', e, hR', -, -⟩ := hO.row
    exact ⟨A', c', by rw [he, e], hR', hg.toBelow⟩
/-- the order of a map can be stored -/
theorem store_ov {ov : Value} (h : ov = fv ∨ ov = .nilFunc) (W : World) (p : Addr) (h1 : (W.cell? p).isSome = true) (h2 : W.frozen? p = false) : (store p ov).run Tryz.prog W = .ok () (W.setCell p ov) := by
  obtain ⟨v, hv⟩ := some_of h1
  rcases h with rfl | rfl
  · simp only [fv]; go_simp
  · go_simp
theorem MapL.ovs {w : World} {ov : Value} {T : Tr} {l : List Tup} (h : MapL w ov T l) : ov = fv ∨ ov = .nilFunc := h.ov.elim .inl (fun h => .inr h.1)
/-- a list of tuples stays where a set is written -/
theorem row_set2 {W : World} {g : Nat} {t : TypeId} {ov : Value} {p A : Option Addr} {l : List Tup} (h : Row W A l) (hg : W.heap[g]? = some (.cells #[ov, .pointer p] t (0, 0))) (ho : ov = fv ∨ ov = .nilFunc) (u v : Value) :
    Row ((W.setCell ⟨g, 0, none⟩ u).setCell ⟨g, 1, none⟩ v) A l := fun hl => by
  obtain ⟨b, o, e, hb, hL⟩ := h hl
  have hpos : 0 < l.length := List.length_pos_iff.2 hl
  have hne : ¬ b = g := fun hbg => by
    subst hbg
    have h0 := hL 0 hpos 0 _ rfl
    rw [box_cell hg] at h0
    rcases o with _ | _ | o
    · rcases ho with rfl | rfl <;> simp [fv] at h0
    · simp at h0
    · simp at h0
  exact ⟨b, o, e, by simpa using hb, fun i hi c x hx => set_cc hne (hL i hi c x hx)⟩
theorem keep11 {a b : World} {p0 p1 p2 p3 p4 p5 p6 p7 p8 p9 p10 o0 o1 o2 o3 o4 o5 o6 o7 o8 o9 o10 : Nat} {x0 x1 x2 x3 x4 x5 x6 x7 x8 x9 x10 : Value} (h : Below a.heap.size a b)
    (s : a.cell? ⟨p0, o0, none⟩ = some x0 ∧ a.cell? ⟨p1, o1, none⟩ = some x1 ∧ a.cell? ⟨p2, o2, none⟩ = some x2 ∧ a.cell? ⟨p3, o3, none⟩ = some x3 ∧ a.cell? ⟨p4, o4, none⟩ = some x4 ∧ a.cell? ⟨p5, o5, none⟩ = some x5 ∧ a.cell? ⟨p6, o6, none⟩ = some x6 ∧ a.cell? ⟨p7, o7, none⟩ = some x7 ∧ a.cell? ⟨p8, o8, none⟩ = some x8 ∧ a.cell? ⟨p9, o9, none⟩ = some x9 ∧ a.cell? ⟨p10, o10, none⟩ = some x10) :
    b.cell? ⟨p0, o0, none⟩ = some x0 ∧ b.cell? ⟨p1, o1, none⟩ = some x1 ∧ b.cell? ⟨p2, o2, none⟩ = some x2 ∧ b.cell? ⟨p3, o3, none⟩ = some x3 ∧ b.cell? ⟨p4, o4, none⟩ = some x4 ∧ b.cell? ⟨p5, o5, none⟩ = some x5 ∧ b.cell? ⟨p6, o6, none⟩ = some x6 ∧ b.cell? ⟨p7, o7, none⟩ = some x7 ∧ b.cell? ⟨p8, o8, none⟩ = some x8 ∧ b.cell? ⟨p9, o9, none⟩ = some x9 ∧ b.cell? ⟨p10, o10, none⟩ = some x10 :=
  ⟨keep1 h s.1, keep1 h s.2.1, keep1 h s.2.2.1, keep1 h s.2.2.2.1, keep1 h s.2.2.2.2.1, keep1 h s.2.2.2.2.2.1, keep1 h s.2.2.2.2.2.2.1, keep1 h s.2.2.2.2.2.2.2.1, keep1 h s.2.2.2.2.2.2.2.2.1, keep1 h s.2.2.2.2.2.2.2.2.2.1, keep1 h s.2.2.2.2.2.2.2.2.2.2⟩

theorem same_z {N M : List Tup} {z : Bool} (hz : decide (N = M) = z) : (sameI N M == 1) = z := by
  unfold sameI
  by_cases h : N = M
  · rw [if_pos h, ← hz, decide_eq_true h]; rfl
  · rw [if_neg h, ← hz, decide_eq_false h]; rfl
theorem rsame_g (A B : Option Addr) (l m : List Tup) (c d : Nat) (w : World) (v : Int) (hR : Row w A l) (hS : Row w B m) (hn : l.length ≤ 10000) (h : sameI l m = v) :
    Calls Tryz.prog 14 #[.slice A l.length c, .slice B m.length d] w fun e w' => e = .returned (.int .i64 v) ∧ Below w.heap.size w w' := by
  subst h; exact (rsame_n A B l m _ _ c d w hR hS rfl rfl hn).mono fun _ _ h => ⟨h.1, h.2.toBelow⟩
theorem lsame_g {w : World} {ov : Value} {T : Tr} {m : List Tup} (h : MapL w ov T m) (A : Option Addr) (c : Nat) (hR : Row w A m) (hm : m.length ≤ 10000) :
    Calls Tryz.prog 23 #[.agg #[ov, .pointer T.ad], .slice A m.length c] w fun e w' => e = .returned (.int .i64 1) ∧ Below w.heap.size w w' := lsame_any h A m c 1 hR hm (sameI_self m)
theorem row_set1 {W : World} {g j : Nat} {z : Bool} {A : Option Addr} {l : List Tup} (h : Row W A l) (hg : W.cell? ⟨g, j, none⟩ = some (.bool z)) (u : Value) : Row (W.setCell ⟨g, j, none⟩ u) A l := fun hl => by
  obtain ⟨b, o, e, hb, hL⟩ := h hl
  refine ⟨b, o, e, by simpa using hb, fun i hi c x hx => ?_⟩
  have h0 := hL i hi c x hx
  have hc := enc_lt hx
  by_cases hne : (⟨g, j, none⟩ : Addr) = ⟨b, o + i * 6 + c, none⟩
  · rw [← hne, hg] at h0
    injection h0 with h0
    subst h0
    match c, hc with
    | 0, _ => cases hx
    | 1, _ => cases hx
    | 2, _ => cases hx
    | 3, _ => cases hx
    | 4, _ => cases hx
    | 5, _ => cases hx
  · exact (World.cell?_setCell_other W _ _ u hne).trans h0
theorem cells_ne {W : World} {g1 g2 : Nat} {a1 a2 : Array Value} {t1 t2 : TypeId} {z1 z2 : Nat × Nat} (h1 : W.heap[g1]? = some (.cells a1 t1 z1)) (h2 : W.heap[g2]? = some (.cells a2 t2 z2)) (ht : t1 ≠ t2) : ¬ g1 = g2 := fun e => by
  subst e
  rw [h1] at h2
  injection h2 with h2
  injection h2 with _ h2 _
  exact ht h2
theorem of_x {w : World} (A : Option Addr) (x : List (Nat × Nat)) (c : Nat) (hR : Row w A (ofT x)) :
    Calls Tryz.prog 6 #[.slice A (ofT x).length c] w (GivesS w (srt cmpT (ofT x), 0)) := by
  have q := of_l A (ofT x) c hR (fun t ht => ok_fits (ofT_ok x t ht)) (Nat.le_trans (ofT_len x) (by decide))
  rw [ofF_ofT] at q; exact q
theorem with_x (k : Tup) (d : Bool) (ho : okT k = true) {w : World} {ov : Value} {T : Tr} {l : List Tup} (h : MapL w ov T l) (hn : l.length ≤ 4000) :
    Calls Tryz.prog 22 #[.agg #[ov, .pointer T.ad], .agg #[.string k.a, .string k.b, .string k.c, .string k.d, .string k.e, .string k.f, .bool d]] w (GivesS w (nx l k d, 0)) := by
  have q := with_l k d (ok_fits ho) h (Nat.le_trans hn (by decide))
  rw [wth_nx d ho (by omega)] at q; exact q
theorem rwith_x (A : Option Addr) (l : List Tup) (c : Nat) (k : Tup) (d : Bool) (w : World) (hR : Row w A l) (hv : ∀ t ∈ l, okT t = true) (ho : okT k = true) (hl : Asc cmpT l) (hn : l.length ≤ 4000) :
    Calls Tryz.prog 21 #[.slice A l.length c, .agg #[.string k.a, .string k.b, .string k.c, .string k.d, .string k.e, .string k.f, .bool d]] w (GivesW w (nx l k d, 0)) := by
  have q := rwith_any A l c k d w hR (fun t ht => ok_fits (hv t ht)) (ok_fits ho) hl hn
  rw [wth_nx d ho (by omega)] at q; exact q
end Go.Proofs.YtgfgfggoofjeeaaGreat.DT
namespace Go.Proofs.YtgfgfggoofjeeaaGreat
open Go.ChangeShapes Go.WideShapes Go.ChangeAt Go.RowKit Go.Deep
variable {H : Type} {enc : TypeId × Value → H} {P : Program} {w : World} {base : Nat} {spare : Nat → Bool} {held : Bool}

theorem u8_nat {n : Int} (h : (Lit.int .u8 n).wf = true) : n = (n.toNat : Int) ∧ n.toNat < 256 := by
  simp [Lit.wf, IntKind.min, IntKind.max, IntKind.signed, IntKind.bits] at h
  omega
/-- two bytes of an array -/
theorem trod_two {e b : TypeId} {fuel : Nat} {u v : Value} {x : DataW H × List MemPlace} (he : P.underlying e = some (.array 2 b)) (cB : P.cellsOf b = 1) (hb : P.underlying b = some (.int .u8)) (h : DataW.trod enc P w base spare held fuel e [u, v] = some x) :
    ∃ p q : Nat, u = .int .u8 p ∧ v = .int .u8 q ∧ p < 256 ∧ q < 256 := by
  obtain ⟨xs, m', _, _, _, hxl, hxs⟩ := DataW.trod_array he h
  have h0 := hxs 0 (by decide)
  have h1 := hxs 1 (by decide)
  rw [cB] at h0 h1
  match xs, hxl with
  | [y0, y1], _ =>
    obtain ⟨n0, e0, -, w0⟩ := DataW.trod_int (cs := [u]) hb (by simpa using h0)
    obtain ⟨n1, e1, -, w1⟩ := DataW.trod_int (cs := [v]) hb (by simpa using h1)
    simp only [List.cons.injEq, and_true] at e0 e1
    obtain ⟨k0, l0⟩ := u8_nat w0
    obtain ⟨k1, l1⟩ := u8_nat w1
    exact ⟨n0.toNat, n1.toNat, by rw [e0, ← k0], by rw [e1, ← k1], l0, l1⟩
/-- a pair of bytes by value -/
theorem open_two {e b : TypeId} {r : Reach} {b0 : Nat} {v : Value} {d : DataW H} {p : List MemPlace} (he : P.underlying e = some (.array 2 b)) (cE : P.cellsOf e = 2) (cB : P.cellsOf b = 1) (hb : P.underlying b = some (.int .u8))
    (hv : Value.okWide P w r b0 e v) (h : DataW.Trod enc P w base spare held e v d p) :
    ∃ x y : Nat, v = .agg #[.int .u8 x, .int .u8 y] ∧ x < 256 ∧ y < 256 := by
  obtain ⟨cs, rfl, hsz, _⟩ : ∃ cs, v = .agg cs ∧ cs.size = P.cellsOf e ∧ Row.okWide P w r b0 e cs := by
    simpa [Value.okWide, he] using hv
  rw [cE] at hsz
  obtain ⟨l⟩ := cs
  match l, hsz with
  | [c0, c1], _ =>
    obtain ⟨fuel, hf⟩ := h
    obtain ⟨x, y, rfl, rfl, hx, hy⟩ := trod_two he cB hb (u := c0) (v := c1) (by simpa [Value.cells] using hf)
    exact ⟨x, y, rfl, hx, hy⟩
/-- the number in a cell -/
def cellN (w : World) (a : Addr) : Nat :=
  match w.cell? a with
  | some (.int _ n) => n.toNat
  | _ => 0
theorem cellN_of {w : World} {a : Addr} {n : Nat} (h : w.cell? a = some (.int .u8 n)) : cellN w a = n := by unfold cellN; rw [h]; simp
theorem addr_none {w : World} {a : Addr} {u : Value} (h : w.cell? (a.add 0) = some u) : a = ⟨a.block, a.off, none⟩ := by
  obtain ⟨b, o, s⟩ := a
  rw [show (⟨b, o, s⟩ : Addr).add 0 = ⟨b, o, s⟩ from rfl] at h
  cases s with
  | none => rfl
  | some k =>
    exfalso
    unfold World.cell? at h
    split at h <;> simp at h
theorem add_plain (b o k : Nat) : (⟨b, o, none⟩ : Addr).add k = ⟨b, o + k, none⟩ := by
  unfold Addr.add
  by_cases h : k = 0
  · subst h; rfl
  · rw [if_neg h]
theorem open_pairs {t s e b : TypeId} {f0 : Field} {r : Reach} {b0 : Nat} {v : Value} {d : DataW H} {p : List MemPlace} (ht : P.underlying t = some (.struct #[f0])) (hft : f0.type = s) (ho : f0.offset = 0) (cT : P.cellsOf t = 1) (cS : P.cellsOf s = 1) (hs : P.underlying s = some (.slice e))
    (he : P.underlying e = some (.array 2 b)) (cE : P.cellsOf e = 2) (cB : P.cellsOf b = 1) (hb : P.underlying b = some (.int .u8))
    (hv : Value.okWide P w r b0 t v) (h : DataW.Trod enc P w base spare held t v d p) :
    ∃ A x c, v = .agg #[.slice A x.length c] ∧ x.length ≤ maxLen ∧ RowN w A x := by
  obtain ⟨cs, rfl, hsz⟩ := okWide_struct ht hv
  obtain ⟨l⟩ := cs
  match l, hsz.trans cT with
  | [c0], _ =>
    obtain ⟨fuel, hf⟩ := h
    obtain ⟨y0, n, _, _, h0⟩ := trod_struct1 ht hf
    rw [hft, ho, cS] at h0
    have h0' : DataW.trod enc P w base spare held n s [c0] = some y0 := by simpa [Value.cells] using h0
    rcases open_slice hs h0' with ⟨hc, -⟩ | ⟨a, len, cap, m, k, D, Pl, hc, hbase, hle, hcap, hm, -, hel⟩
    · simp only [List.cons.injEq, and_true] at hc
      subst hc
      exact ⟨none, [], 0, rfl, Nat.zero_le _, fun h => absurd rfl h⟩
    · simp only [List.cons.injEq, and_true] at hc
      subst hc
      have hml : len ≤ m := by rw [hm]; split <;> omega
      have key : ∀ i, i < len → ∃ p q : Nat, w.cell? (a.add (i * 2)) = some (.int .u8 p) ∧ w.cell? (a.add (i * 2 + 1)) = some (.int .u8 q) ∧ p < 256 ∧ q < 256 := fun i hi => by
        obtain ⟨cs', hcells, htr⟩ := hel i (by omega)
        rw [cE] at hcells
        obtain ⟨_, hlen, hcell⟩ := World.cells?_some hcells
        match cs', hlen with
        | [u, v], _ =>
          obtain ⟨p, q, rfl, rfl, hp, hq⟩ := trod_two he cB hb htr
          have k0 := hcell 0 (by decide)
          have k1 := hcell 1 (by decide)
          rw [Addr.add_add] at k0 k1
          exact ⟨p, q, by simpa using k0, by simpa using k1, hp, hq⟩
      refine ⟨some a, (List.range len).map fun i => (cellN w (a.add (i * 2)), cellN w (a.add (i * 2 + 1))), cap, by simp, by simp; omega, fun hne => ?_⟩
      have hlen : 0 < len := by
        rcases Nat.eq_zero_or_pos len with h | h
        · subst h; exact absurd rfl hne
        · exact h
      obtain ⟨p0, q0, hc0, -⟩ := key 0 hlen
      have ha := addr_none (by simpa using hc0)
      have hlt := World.block_lt_of_cell? _ _ hc0
      rw [ha] at hlt
      refine ⟨a.block, a.off, by rw [← ha], by simpa [Addr.add] using hlt, fun i hi => ?_⟩
      have hi' : i < len := by simpa using hi
      obtain ⟨p, q, e0, e1, hp, hq⟩ := key i hi'
      have f0 := cellN_of e0
      have f1 := cellN_of e1
      rw [ha, add_plain] at e0 e1
      simp only [List.getElem_map, List.getElem_range, f0, f1]
      exact ⟨hp, hq, e0, by rw [← Nat.add_assoc] at e1; exact e1⟩

end Go.Proofs.YtgfgfggoofjeeaaGreat
namespace Go.Proofs.YtgfgfggoofjeeaaGreat
open Go.ChangeShapes Go.WideShapes Go.ChangeAt Go.RowKit Go.Deep
variable {H : Type} {enc : TypeId × Value → H} {P : Program} {w : World} {base : Nat} {spare : Nat → Bool} {held : Bool}

/-- triples of bytes that lie one behind the other -/
def RowM (w : World) (A : Option Addr) (x : List (Nat × Nat × Nat)) : Prop :=
  x ≠ [] → ∃ b o, A = some ⟨b, o, none⟩ ∧ b < w.heap.size ∧ ∀ i, (h : i < x.length) → x[i].1 < 256 ∧ x[i].2.1 < 256 ∧ x[i].2.2 < 256 ∧ w.cell? ⟨b, o + i * 3, none⟩ = some (.int .u8 (x[i].1 : Nat)) ∧ w.cell? ⟨b, o + i * 3 + 1, none⟩ = some (.int .u8 (x[i].2.1 : Nat)) ∧ w.cell? ⟨b, o + i * 3 + 2, none⟩ = some (.int .u8 (x[i].2.2 : Nat))
theorem RowM.below {w w' : World} {A : Option Addr} {x : List (Nat × Nat × Nat)} (h : RowM w A x) (hb : Below w.heap.size w w') : RowM w' A x := fun hl => by
  obtain ⟨b, o, e, h1, h2⟩ := h hl
  refine ⟨b, o, e, Nat.lt_of_lt_of_le h1 hb.size, fun i hi => ?_⟩
  obtain ⟨p, q, r, c0, c1, c2⟩ := h2 i hi
  exact ⟨p, q, r, (hb.cell (p := ⟨b, _, none⟩) h1).trans c0, (hb.cell (p := ⟨b, _, none⟩) h1).trans c1, (hb.cell (p := ⟨b, _, none⟩) h1).trans c2⟩
theorem RowN.below {w w' : World} {A : Option Addr} {x : List (Nat × Nat)} (h : RowN w A x) (hb : Below w.heap.size w w') : RowN w' A x := fun hl => by
  obtain ⟨b, o, e, h1, h2⟩ := h hl
  refine ⟨b, o, e, Nat.lt_of_lt_of_le h1 hb.size, fun i hi => ?_⟩
  obtain ⟨p, q, c0, c1⟩ := h2 i hi
  exact ⟨p, q, (hb.cell (p := ⟨b, _, none⟩) h1).trans c0, (hb.cell (p := ⟨b, _, none⟩) h1).trans c1⟩
/-- three bytes of an array -/
theorem trod_thr {e b : TypeId} {fuel : Nat} {u v z : Value} {x : DataW H × List MemPlace} (he : P.underlying e = some (.array 3 b)) (cB : P.cellsOf b = 1) (hb : P.underlying b = some (.int .u8)) (h : DataW.trod enc P w base spare held fuel e [u, v, z] = some x) :
    ∃ p q r : Nat, u = .int .u8 p ∧ v = .int .u8 q ∧ z = .int .u8 r ∧ p < 256 ∧ q < 256 ∧ r < 256 := by
  obtain ⟨xs, m', _, _, _, hxl, hxs⟩ := DataW.trod_array he h
  have h0 := hxs 0 (by decide)
  have h1 := hxs 1 (by decide)
  have h2 := hxs 2 (by decide)
  rw [cB] at h0 h1 h2
  match xs, hxl with
  | [y0, y1, y2], _ =>
    obtain ⟨n0, e0, -, w0⟩ := DataW.trod_int (cs := [u]) hb (by simpa using h0)
    obtain ⟨n1, e1, -, w1⟩ := DataW.trod_int (cs := [v]) hb (by simpa using h1)
    obtain ⟨n2, e2, -, w2⟩ := DataW.trod_int (cs := [z]) hb (by simpa using h2)
    simp only [List.cons.injEq, and_true] at e0 e1 e2
    obtain ⟨k0, l0⟩ := u8_nat w0
    obtain ⟨k1, l1⟩ := u8_nat w1
    obtain ⟨k2, l2⟩ := u8_nat w2
    exact ⟨n0.toNat, n1.toNat, n2.toNat, by rw [e0, ← k0], by rw [e1, ← k1], by rw [e2, ← k2], l0, l1, l2⟩
/-- three bytes by value -/
theorem open_thr {e b : TypeId} {r : Reach} {b0 : Nat} {v : Value} {d : DataW H} {p : List MemPlace} (he : P.underlying e = some (.array 3 b)) (cE : P.cellsOf e = 3) (cB : P.cellsOf b = 1) (hb : P.underlying b = some (.int .u8))
    (hv : Value.okWide P w r b0 e v) (h : DataW.Trod enc P w base spare held e v d p) :
    ∃ x y z : Nat, v = .agg #[.int .u8 x, .int .u8 y, .int .u8 z] ∧ x < 256 ∧ y < 256 ∧ z < 256 := by
  obtain ⟨cs, rfl, hsz, _⟩ : ∃ cs, v = .agg cs ∧ cs.size = P.cellsOf e ∧ Row.okWide P w r b0 e cs := by
    simpa [Value.okWide, he] using hv
  rw [cE] at hsz
  obtain ⟨l⟩ := cs
  match l, hsz with
  | [c0, c1, c2], _ =>
    obtain ⟨fuel, hf⟩ := h
    obtain ⟨x, y, z, rfl, rfl, rfl, hx, hy, hz⟩ := trod_thr he cB hb (u := c0) (v := c1) (z := c2) (by simpa [Value.cells] using hf)
    exact ⟨x, y, z, rfl, hx, hy, hz⟩
theorem cell_pairs {s e b : TypeId} {n : Nat} {c0 : Value} {y0 : DataW H × List MemPlace} (hs : P.underlying s = some (.slice e))
    (he : P.underlying e = some (.array 2 b)) (cE : P.cellsOf e = 2) (cB : P.cellsOf b = 1) (hb : P.underlying b = some (.int .u8)) (h : DataW.trod enc P w base spare held n s [c0] = some y0) :
    ∃ A x c, c0 = .slice A (x : List (Nat × Nat)).length c ∧ x.length ≤ maxLen ∧ RowN w A x := by
  rcases open_slice hs h with ⟨hc, -⟩ | ⟨a, len, cap, m, k, D, Pl, hc, hbase, hle, hcap, hm, -, hel⟩
  · simp only [List.cons.injEq, and_true] at hc
    subst hc
    exact ⟨none, [], 0, rfl, Nat.zero_le _, fun h => absurd rfl h⟩
  · simp only [List.cons.injEq, and_true] at hc
    subst hc
    have hml : len ≤ m := by rw [hm]; split <;> omega
    have key : ∀ i, i < len → ∃ p q : Nat, w.cell? (a.add (i * 2)) = some (.int .u8 p) ∧ w.cell? (a.add (i * 2 + 1)) = some (.int .u8 q) ∧ p < 256 ∧ q < 256 := fun i hi => by
      obtain ⟨cs', hcells, htr⟩ := hel i (by omega)
      rw [cE] at hcells
      obtain ⟨_, hlen, hcell⟩ := World.cells?_some hcells
      match cs', hlen with
      | [u, v], _ =>
        obtain ⟨p, q, rfl, rfl, hp, hq⟩ := trod_two he cB hb htr
        have k0 := hcell 0 (by decide)
        have k1 := hcell 1 (by decide)
        rw [Addr.add_add] at k0 k1
        exact ⟨p, q, by simpa using k0, by simpa using k1, hp, hq⟩
    refine ⟨some a, (List.range len).map fun i => (cellN w (a.add (i * 2)), cellN w (a.add (i * 2 + 1))), cap, by simp, by simp; omega, fun hne => ?_⟩
    have hlen : 0 < len := by
      rcases Nat.eq_zero_or_pos len with h | h
      · subst h; exact absurd rfl hne
      · exact h
    obtain ⟨p0, q0, hc0, -⟩ := key 0 hlen
    have ha := addr_none (by simpa using hc0)
    have hlt := World.block_lt_of_cell? _ _ hc0
    rw [ha] at hlt
    refine ⟨a.block, a.off, by rw [← ha], by simpa [Addr.add] using hlt, fun i hi => ?_⟩
    have hi' : i < len := by simpa using hi
    obtain ⟨p, q, e0, e1, hp, hq⟩ := key i hi'
    have f0 := cellN_of e0
    have f1 := cellN_of e1
    rw [ha, add_plain] at e0 e1
    simp only [List.getElem_map, List.getElem_range, f0, f1]
    exact ⟨hp, hq, e0, by rw [← Nat.add_assoc] at e1; exact e1⟩
theorem cell_triples {s e b : TypeId} {n : Nat} {c0 : Value} {y0 : DataW H × List MemPlace} (hs : P.underlying s = some (.slice e))
    (he : P.underlying e = some (.array 3 b)) (cE : P.cellsOf e = 3) (cB : P.cellsOf b = 1) (hb : P.underlying b = some (.int .u8)) (h : DataW.trod enc P w base spare held n s [c0] = some y0) :
    ∃ A x c, c0 = .slice A (x : List (Nat × Nat × Nat)).length c ∧ x.length ≤ maxLen ∧ RowM w A x := by
  rcases open_slice hs h with ⟨hc, -⟩ | ⟨a, len, cap, m, k, D, Pl, hc, hbase, hle, hcap, hm, -, hel⟩
  · simp only [List.cons.injEq, and_true] at hc
    subst hc
    exact ⟨none, [], 0, rfl, Nat.zero_le _, fun h => absurd rfl h⟩
  · simp only [List.cons.injEq, and_true] at hc
    subst hc
    have hml : len ≤ m := by rw [hm]; split <;> omega
    have key : ∀ i, i < len → ∃ p q r : Nat, w.cell? (a.add (i * 3)) = some (.int .u8 p) ∧ w.cell? (a.add (i * 3 + 1)) = some (.int .u8 q) ∧ w.cell? (a.add (i * 3 + 2)) = some (.int .u8 r) ∧ p < 256 ∧ q < 256 ∧ r < 256 := fun i hi => by
      obtain ⟨cs', hcells, htr⟩ := hel i (by omega)
      rw [cE] at hcells
      obtain ⟨_, hlen, hcell⟩ := World.cells?_some hcells
      match cs', hlen with
      | [u, v, z], _ =>
        obtain ⟨p, q, r, rfl, rfl, rfl, hp, hq, hr⟩ := trod_thr he cB hb htr
        have k0 := hcell 0 (by decide)
        have k1 := hcell 1 (by decide)
        have k2 := hcell 2 (by decide)
        rw [Addr.add_add] at k0 k1 k2
        exact ⟨p, q, r, by simpa using k0, by simpa using k1, by simpa using k2, hp, hq, hr⟩
    refine ⟨some a, (List.range len).map fun i => (cellN w (a.add (i * 3)), cellN w (a.add (i * 3 + 1)), cellN w (a.add (i * 3 + 2))), cap, by simp, by simp; omega, fun hne => ?_⟩
    have hlen : 0 < len := by
      rcases Nat.eq_zero_or_pos len with h | h
      · subst h; exact absurd rfl hne
      · exact h
    obtain ⟨p0, q0, r0, hc0, -⟩ := key 0 hlen
    have ha := addr_none (by simpa using hc0)
    have hlt := World.block_lt_of_cell? _ _ hc0
    rw [ha] at hlt
    refine ⟨a.block, a.off, by rw [← ha], by simpa [Addr.add] using hlt, fun i hi => ?_⟩
    have hi' : i < len := by simpa using hi
    obtain ⟨p, q, r, e0, e1, e2, hp, hq, hr⟩ := key i hi'
    have f0 := cellN_of e0
    have f1 := cellN_of e1
    have f2 := cellN_of e2
    rw [ha, add_plain] at e0 e1 e2
    simp only [List.getElem_map, List.getElem_range, f0, f1, f2]
    exact ⟨hp, hq, hr, e0, by rw [← Nat.add_assoc] at e1; exact e1, by rw [← Nat.add_assoc] at e2; exact e2⟩
/-- a set as the laws draw it -/
theorem open_set {t tt s e b s2 e2 : TypeId} {f0 f1 g0 : Field} {r : Reach} {b0 : Nat} {v : Value} {d : DataW H} {p : List MemPlace} (ht : P.underlying t = some (.struct #[f0, f1])) (hft : f0.type = tt) (ho : f0.offset = 0) (hft1 : f1.type = s2) (ho1 : f1.offset = 1) (cT : P.cellsOf t = 2)
    (htt : P.underlying tt = some (.struct #[g0])) (hgt : g0.type = s) (hgo : g0.offset = 0) (cTT : P.cellsOf tt = 1) (cS : P.cellsOf s = 1) (hs : P.underlying s = some (.slice e))
    (he : P.underlying e = some (.array 2 b)) (cE : P.cellsOf e = 2) (cB : P.cellsOf b = 1) (hb : P.underlying b = some (.int .u8)) (cS2 : P.cellsOf s2 = 1) (hs2 : P.underlying s2 = some (.slice e2)) (he2 : P.underlying e2 = some (.array 3 b)) (cE2 : P.cellsOf e2 = 3)
    (hv : Value.okWide P w r b0 t v) (h : DataW.Trod enc P w base spare held t v d p) :
    ∃ A x c B y c2, v = .agg #[.slice A (x : List (Nat × Nat)).length c, .slice B (y : List (Nat × Nat × Nat)).length c2] ∧ x.length ≤ maxLen ∧ RowN w A x ∧ y.length ≤ maxLen ∧ RowM w B y := by
  obtain ⟨cs, rfl, hsz⟩ := okWide_struct ht hv
  obtain ⟨l⟩ := cs
  match l, hsz.trans cT with
  | [c0, c1], _ =>
    obtain ⟨fuel, hf⟩ := h
    obtain ⟨y0, y1, n, _, _, h0, h1⟩ := trod_struct2 ht hf
    rw [hft, ho, cTT] at h0
    rw [hft1, ho1, cS2] at h1
    have h0' : DataW.trod enc P w base spare held n tt [c0] = some y0 := by simpa [Value.cells] using h0
    have h1' : DataW.trod enc P w base spare held n s2 [c1] = some y1 := by simpa [Value.cells] using h1
    obtain ⟨z0, n2, _, _, h2⟩ := trod_struct1 htt h0'
    rw [hgt, hgo, cS] at h2
    have h2' : DataW.trod enc P w base spare held n2 s [c0] = some z0 := by simpa using h2
    obtain ⟨A, x, c, rfl, hx, hR⟩ := cell_pairs hs he cE cB hb h2'
    obtain ⟨B, y, c2, rfl, hy, hM⟩ := cell_triples hs2 he2 cE2 cB hb h1'
    exact ⟨A, x, c, B, y, c2, rfl, hx, hR, hy, hM⟩
end Go.Proofs.YtgfgfggoofjeeaaGreat
namespace Go.Proofs.YtgfgfggoofjeeaaGreat.DT
open Go.RowKit Go.Deep

/-- a sorted list of few tuples -/
def GivesF (n : Nat) (e : Ending) (w' : World) : Prop := ∃ (D : Option Addr) (L : List Tup) (cD : Nat), e = .returned (.slice D L.length cD) ∧ Row w' D L ∧ (∀ t ∈ L, okT t = true) ∧ Asc cmpT L ∧ L.length ≤ n
set_option maxRecDepth 20000 in
set_option maxHeartbeats 8000000 in
theorem sof_any (A : Option Addr) (x : List (Nat × Nat)) (c : Nat) (B : Option Addr) (y : List (Nat × Nat × Nat)) (c2 : Nat) (w : World) (hR : RowN w A x) (hx : x.length ≤ maxLen) (hM : RowM w B y) (hy : y.length ≤ maxLen) :
    Calls Tryz.prog 5 #[.agg #[.slice A x.length c, .slice B y.length c2]] w fun e w' => GivesF 50 e w' ∧ Below w.heap.size w w' := by
  have hA : Below w.heap.size w (w.alloc (.cells #[.slice A x.length c, .slice B y.length c2] 27 (0, 0))) := g_alloc g_refl _
  have HA := hid hA
  have HBX := hid (box2p w (.slice A x.length c) (.slice B y.length c2) 27)
  have HM := hid (hM.below hA)
  have HT := hid (of_t A x c _ (hR.below hA) hx)
  have HY : Hid (y.length ≤ 9223372036854775807) := hid hy
  clear hA hR hx hM hy
  go_enter Tryz.func5, Tryz.ntmps5
  go_wp2_with fail
  generalize hA1 : w.alloc (.cells #[.slice A x.length c, .slice B y.length c2] 27 (0, 0)) = A1 at *
  generalize hq : w.heap.size = q at *
  have HQ := hid hq
  clear hA1 hq
  refine HT.out.mono ?_
  rintro _ w1 ⟨C, cC, rfl, hRC, hb1⟩
  have HB1 := hid hb1
  go_wp2_with fail
  refine (rsorted_t C (ofT x) cC _ hRC (fun t ht => ok_fits (ofT_ok x t ht)) (Nat.le_trans (ofT_len x) (by decide))).mono ?_
  rintro _ w3 ⟨D, cD, rfl, hRD, hb3⟩
  have HRD := hid hRD
  have HB3 := hid (g_trans HB1.out hb3)
  have hLok := srt_ok (ofT_ok x)
  have hLasc := asc_srt tot (ofT x)
  have hLlen := Nat.le_trans (length_srt (cmp := cmpT) (ofT x)) (ofT_len x)
  clear hRC hRD hb1 hb3 HT
  generalize srt cmpT (ofT x) = L at *
  have HOK := hid hLok
  have HASC := hid hLasc
  have HLN := hid hLlen
  have HX2 := hid (keep2 HB3.out HBX.out)
  have HM2 := hid (HM.out.below HB3.out)
  clear hLok hLasc hLlen HBX HM HB1
  go_wp2
  go_loopw [3, 4] (fun v i wr => ∃ (k : Nat) (L : List Tup) (D : Option Addr) (cD : Nat), k ≤ 30 ∧ i = .int .i64 k ∧ v = .slice D L.length cD ∧ Row wr D L ∧ (∀ t ∈ L, okT t = true) ∧ Asc cmpT L ∧ L.length ≤ 20 + k ∧ Below w3.heap.size w3 wr) (fun _ i _ => 30 - (intOf i).toNat)
  case atStart => exact ⟨0, L, D, cD, by omega, rfl, rfl, HRD.out, HOK.out, HASC.out, HLN.out, g_refl⟩
  case round =>
    clear HRD HOK HASC HLN
    obtain ⟨k, M, E, cE, hk, rfl, rfl, hRE, hok, hasc, hlen, hw⟩ := hrel
    obtain ⟨z0, z1⟩ := keep2 (show Below w3.heap.size w3 wr from hw) HX2.out
    have HK := hid hk
    by_cases hlt : k < y.length
    · by_cases h30 : k < 30
      · have i1 : (k : Int) < (y.length : Int) := by omega
        have i2 : (k : Int) < 30 := by omega
        obtain ⟨b, o, rfl, hbl, hel⟩ := (HM2.out.below hw) (fun e => by rw [e] at hlt; simp at hlt)
        obtain ⟨hp, hq, hr, e0, e1, e2⟩ := hel k hlt
        obtain ⟨t, ht⟩ : ∃ t, one y[k].1 y[k].2.1 = t := ⟨_, rfl⟩
        obtain ⟨d, hd⟩ : ∃ d, decide (y[k].2.2 % 2 = 1) = d := ⟨_, rfl⟩
        have hot : okT t = true := by rw [← ht]; exact one_ok _ _
        have HCH := hid (fun W => change_any y[k].1 y[k].2.1 y[k].2.2 W hp hq hr t ht d hd)
        have HOT := hid hot
        have HRE := hid hRE
        have HOK := hid hok
        have HASC := hid hasc
        have HLN := hid hlen
        have HW := hid hw
        generalize y[k].1 = yp at *
        generalize y[k].2.1 = yq at *
        generalize y[k].2.2 = yr at *
        clear hk hp hq hr ht hd hot hRE hok hasc hlen hw hbl hel
        go_wp2_with fail
        refine (HCH.out _).mono ?_
        rintro _ w5 ⟨rfl, hb5⟩
        have HB5 := hid hb5
        clear e0 e1 e2 z0 z1 hb5
        go_wp2_with fail
        refine (rwith_x E M cE t d _ (HRE.out.below HB5.out) HOK.out HOT.out HASC.out (by have := HLN.out; omega)).mono ?_
        rintro _ w6 ⟨F, cF, rfl, hRF, hb6⟩
        have hlen := nx_len M t d
        have HB6 := hid (g_trans (g_trans HW.out HB5.out) hb6)
        have HRF := hid hRF
        clear hRF hb6
        go_wp2
        go_roundw
        case rel => exact ⟨k + 1, nx M t d, F, cF, by omega, by go_num, rfl, HRF.out, nx_ok HOK.out HOT.out d, nx_asc HASC.out t d, by have := HLN.out; omega, HB6.out⟩
        case measure => simp [intOf]; omega
      · have i2 : ¬ (k : Int) < 30 := by omega
        have i1 : (k : Int) < (y.length : Int) := by omega
        go_wp2
        go_ret
        have h := HQ.out
        subst h
        exact ⟨⟨E, M, cE, rfl, hRE, hok, hasc, by omega⟩, g_trans (g_trans HA.out HB3.out) hw⟩
    · have i1 : ¬ (k : Int) < (y.length : Int) := by omega
      go_wp2
      go_ret
      have h := HQ.out
      subst h
      exact ⟨⟨E, M, cE, rfl, hRE, hok, hasc, by omega⟩, g_trans (g_trans HA.out HB3.out) hw⟩
end Go.Proofs.YtgfgfggoofjeeaaGreat.DT
namespace Go.Proofs.YtgfgfggoofjeeaaGreat.DT
open Go.RowKit Go.Deep

/-- a block of a type with so many cells -/
def Blk (W : World) (g : Nat) (t : TypeId) (cs : Array Value) : Prop := W.heap[g]? = some (.cells cs t (0, 0))
def Big (W : World) (g : Nat) (t : TypeId) (n : Nat) : Prop := ∃ cs, Blk W g t cs ∧ cs.size = n
/-- the store, and the world behind it -/
def stB (t : TypeId) (p : Addr) (v : Value) : Sem Unit := storeVar t p v
def putB (W : World) (g : Nat) (cs : Array Value) : World := W.setCells g 0 cs.toList
section
variable {W x : World} {g k : Nat} {t t' : TypeId} {cs ds : Array Value} {n m : Nat}
theorem Blk.big (h : Blk W g t cs) : Big W g t cs.size := ⟨cs, h, rfl⟩
theorem Blk.lt (h : Blk W g t cs) : g < W.heap.size := (Array.getElem?_eq_some_iff.1 h).1
theorem Big.lt (h : Big W g t n) : g < W.heap.size := by obtain ⟨cs, h, -⟩ := h; exact h.lt
theorem Blk.below (h : Blk W g t cs) (hb : Below W.heap.size W x) : Blk x g t cs := (hb.block g h.lt).trans h
theorem Big.below (h : Big W g t n) (hb : Below W.heap.size W x) : Big x g t n := by obtain ⟨cs, h, e⟩ := h; exact ⟨cs, h.below hb, e⟩
theorem Blk.old (h : Blk W g t cs) (o : Obj) : Blk (W.alloc o) g t cs := new_old h
theorem Big.old (h : Big W g t n) (o : Obj) : Big (W.alloc o) g t n := by obtain ⟨cs, h, e⟩ := h; exact ⟨cs, h.old o, e⟩
theorem Blk.drew (h : Blk W g t cs) : Blk W.drew g t cs := h
theorem Big.drew (h : Big W g t n) : Big W.drew g t n := h
theorem Blk.new (W : World) (t : TypeId) (cs : Array Value) : Blk (W.alloc (.cells cs t (0, 0))) W.heap.size t cs := new_at _ _
theorem Blk.new1 (W : World) (o : Obj) (t : TypeId) (cs : Array Value) : Blk ((W.alloc o).alloc (.cells cs t (0, 0))) (W.heap.size + 1) t cs := by
  have h := Blk.new (W.alloc o) t cs
  rw [show (W.alloc o).heap.size = W.heap.size + 1 by simp] at h; exact h
theorem Blk.cell (h : Blk W g t cs) (j : Nat) : W.cell? ⟨g, j, none⟩ = cs[j]? := box_cell h j
theorem Big.there (h : Big W g t n) : W.there g 0 n := fun j hj => by
  obtain ⟨cs, h, e⟩ := h
  rw [Nat.zero_add, h.cell j, Array.getElem?_eq_getElem (by omega)]
  refine ⟨rfl, ?_⟩
  unfold Blk at h; simp [World.frozen?, h]
theorem set_blk (cs : List Value) : ∀ (W : World) (i : Nat) (ds : Array Value), Blk W g t ds → ∃ es, Blk (W.setCells g i cs) g t es ∧ es.size = ds.size := by
  induction cs with
  | nil => exact fun W i ds h => ⟨ds, h, rfl⟩
  | cons v r ih =>
    intro W i ds h
    obtain ⟨es, h2, e⟩ := ih (W.setCell ⟨g, i, none⟩ v) (i + 1) _ (heap_setCell_same W g i ds t v h)
    exact ⟨es, h2, by rw [e]; simp⟩
theorem set_apart (hn : ¬ k = g) (cs : List Value) : ∀ (W : World) (i : Nat), (W.setCells g i cs).heap[k]? = W.heap[k]? := by
  induction cs with
  | nil => exact fun W i => rfl
  | cons v r ih => intro W i; exact (ih (W.setCell ⟨g, i, none⟩ v) (i + 1)).trans (heap_setCell_other W ⟨g, i, none⟩ k v hn)
theorem Big.put (h : Big W g t n) (k : Nat) (cs : Array Value) : Big (putB W k cs) g t n := by
  obtain ⟨ds, h, e⟩ := h
  by_cases hk : g = k
  · subst hk
    obtain ⟨es, h2, e2⟩ := set_blk cs.toList W 0 ds h
    exact ⟨es, h2, e2.trans e⟩
  · exact ⟨ds, (set_apart hk cs.toList W 0).trans h, e⟩
theorem Blk.put (h : Blk W g t ds) (hn : ¬ g = k) (cs : Array Value) : Blk (putB W k cs) g t ds := (set_apart hn cs.toList W 0).trans h
theorem Big.same (h : Big W g t n) (cs : Array Value) (hn : cs.size = n) : Blk (putB W g cs) g t cs := by
  have ht := h.there
  obtain ⟨ds, h0, e⟩ := h
  obtain ⟨es, h2, e2⟩ := set_blk cs.toList W 0 ds h0
  have hr := World.rangeAt_setCells_same W g 0 cs.toList (by rw [Array.length_toList, hn]; exact ht)
  have : es = cs := by
    refine Array.ext (by omega) fun j h1 h3 => ?_
    have h4 := hr j cs[j] (by simp [h3])
    rw [Nat.zero_add] at h4
    have h5 := Blk.cell (W := putB W g cs) h2 j
    rw [show (putB W g cs).cell? ⟨g, j, none⟩ = some cs[j] from h4, Array.getElem?_eq_getElem h1] at h5
    exact (Option.some.inj h5).symm
  rw [← this]; rw [this]; rw [this] at h2; exact h2
theorem g_put {a b : World} (h : Below a.heap.size a b) (hp : a.heap.size ≤ g) (cs : Array Value) : Below a.heap.size a (putB b g cs) := by
  unfold putB
  generalize cs.toList = l
  suffices H : ∀ (l : List Value) (i : Nat) (b : World), Below a.heap.size a b → Below a.heap.size a (b.setCells g i l) from H l 0 b h
  intro l
  induction l with
  | nil => exact fun i b h => h
  | cons v r ih => intro i b h; exact ih (i + 1) _ (g_set h (p := ⟨g, i, none⟩) hp v)
theorem put_cell (hn : ¬ k = g) (i : Nat) (cs : Array Value) : (putB W g cs).cell? ⟨k, i, none⟩ = W.cell? ⟨k, i, none⟩ := by
  unfold putB; exact World.cell?_setCells_out g _ 0 W _ (fun e _ => absurd e hn)
end
theorem storeVar_chg (p : Addr) (v : Value) : storeVar 69 p v = stB 69 p v := rfl
theorem run_chg {W : World} {g : Nat} (h : Big W g 69 7) (a b c d e f : ByteArray) (x : Bool) :
    (stB 69 ⟨g, 0, none⟩ (.agg #[.string a, .string b, .string c, .string d, .string e, .string f, .bool x])).run Tryz.prog W = .ok () (putB W g #[.string a, .string b, .string c, .string d, .string e, .string f, .bool x]) :=
  run_storeVar_mid W g 0 69 #[.string a, .string b, .string c, .string d, .string e, .string f, .bool x] h.there (by kernel_rfl) (by simp [Value.oneCell'])
end Go.Proofs.YtgfgfggoofjeeaaGreat.DT
namespace Go.Proofs.YtgfgfggoofjeeaaGreat.DT
open Go.RowKit Go.Deep

theorem storeVar_tup (p : Addr) (v : Value) : storeVar 48 p v = stB 48 p v := rfl
theorem storeVar_fil (p : Addr) (v : Value) : storeVar 51 p v = stB 51 p v := rfl
theorem run_tup {W : World} {g : Nat} (h : Big W g 48 6) (a b c d e f : ByteArray) :
    (stB 48 ⟨g, 0, none⟩ (.agg #[.string a, .string b, .string c, .string d, .string e, .string f])).run Tryz.prog W = .ok () (putB W g #[.string a, .string b, .string c, .string d, .string e, .string f]) :=
  run_storeVar_mid W g 0 48 #[.string a, .string b, .string c, .string d, .string e, .string f] h.there (by kernel_rfl) (by simp [Value.oneCell'])
theorem run_fil {W : World} {g : Nat} (h : Big W g 51 7) (a b c d e f : ByteArray) (x : Bool) :
    (stB 51 ⟨g, 0, none⟩ (.agg #[.string a, .string b, .string c, .string d, .string e, .string f, .bool x])).run Tryz.prog W = .ok () (putB W g #[.string a, .string b, .string c, .string d, .string e, .string f, .bool x]) :=
  run_storeVar_mid W g 0 51 #[.string a, .string b, .string c, .string d, .string e, .string f, .bool x] h.there (by kernel_rfl) (by simp [Value.oneCell'])
theorem bt_new (W : World) : Big (W.alloc (.cells #[.string ⟨#[]⟩, .string ⟨#[]⟩, .string ⟨#[]⟩, .string ⟨#[]⟩, .string ⟨#[]⟩, .string ⟨#[]⟩] 48 (0, 0))) W.heap.size 48 6 := (Blk.new W _ _).big
theorem bt_new1 (W : World) (o : Obj) : Big ((W.alloc o).alloc (.cells #[.string ⟨#[]⟩, .string ⟨#[]⟩, .string ⟨#[]⟩, .string ⟨#[]⟩, .string ⟨#[]⟩, .string ⟨#[]⟩] 48 (0, 0))) (W.heap.size + 1) 48 6 := (Blk.new1 W o _ _).big
theorem bt_newo (W : World) (o : Obj) : Big ((W.alloc (.cells #[.string ⟨#[]⟩, .string ⟨#[]⟩, .string ⟨#[]⟩, .string ⟨#[]⟩, .string ⟨#[]⟩, .string ⟨#[]⟩] 48 (0, 0))).alloc o) W.heap.size 48 6 := (bt_new W).old o
theorem bf_new (W : World) : Big (W.alloc (.cells #[.string ⟨#[]⟩, .string ⟨#[]⟩, .string ⟨#[]⟩, .string ⟨#[]⟩, .string ⟨#[]⟩, .string ⟨#[]⟩, .bool false] 51 (0, 0))) W.heap.size 51 7 := (Blk.new W _ _).big
theorem bf_new1 (W : World) (o : Obj) : Big ((W.alloc o).alloc (.cells #[.string ⟨#[]⟩, .string ⟨#[]⟩, .string ⟨#[]⟩, .string ⟨#[]⟩, .string ⟨#[]⟩, .string ⟨#[]⟩, .bool false] 51 (0, 0))) (W.heap.size + 1) 51 7 := (Blk.new1 W o _ _).big
theorem bf_newo (W : World) (o : Obj) : Big ((W.alloc (.cells #[.string ⟨#[]⟩, .string ⟨#[]⟩, .string ⟨#[]⟩, .string ⟨#[]⟩, .string ⟨#[]⟩, .string ⟨#[]⟩, .bool false] 51 (0, 0))).alloc o) W.heap.size 51 7 := (bf_new W).old o
theorem putB_sz (W : World) (g : Nat) (cs : Array Value) : (putB W g cs).heap.size = W.heap.size := by
  unfold putB
  generalize cs.toList = l
  suffices H : ∀ (l : List Value) (i : Nat) (W : World), (W.setCells g i l).heap.size = W.heap.size from H l 0 W
  intro l
  induction l with
  | nil => exact fun i W => rfl
  | cons v r ih => exact fun i W => (ih (i + 1) _).trans (by simp)
/-- both blocks lie ahead of the stores -/
theorem ends_a {w X : World} {g g' : Nat} {t1 t2 : TypeId} {n1 n2 : Nat} {cs ds : Array Value} (hX : Below w.heap.size w X) (h1 : Big X g t1 n1) (h2 : Big X g' t2 n2) (e1 : cs.size = n1) (e2 : ds.size = n2) (hne : ¬ g = g') (hg : w.heap.size ≤ g) (hg' : w.heap.size ≤ g') :
    ∃ p p', Value.pointer (some ⟨g, 0, none⟩) = Value.pointer (some ⟨p, 0, none⟩) ∧ Value.pointer (some ⟨g', 0, none⟩) = Value.pointer (some ⟨p', 0, none⟩) ∧ ¬ p = p' ∧ w.heap.size ≤ p ∧ w.heap.size ≤ p' ∧ Blk (putB (putB X g cs) g' ds) p t1 cs ∧ Blk (putB (putB X g cs) g' ds) p' t2 ds ∧ Below w.heap.size w (putB (putB X g cs) g' ds) :=
  ⟨g, g', rfl, rfl, hne, hg, hg', Blk.put (Big.same h1 _ e1) hne _, Big.same (Big.put h2 _ _) _ e2, g_put (g_put hX hg _) hg' _⟩
/-- the second block is made behind the first store -/
theorem ends_b {w X : World} {g : Nat} {t1 t2 : TypeId} {n1 : Nat} {cs ds zs : Array Value} (hX : Below w.heap.size w X) (h1 : Big X g t1 n1) (e1 : cs.size = n1) (hz : zs.size = ds.size) (hg : w.heap.size ≤ g) :
    ∃ p p', Value.pointer (some ⟨g, 0, none⟩) = Value.pointer (some ⟨p, 0, none⟩) ∧ Value.pointer (some ⟨(putB X g cs).heap.size, 0, none⟩) = Value.pointer (some ⟨p', 0, none⟩) ∧ ¬ p = p' ∧ w.heap.size ≤ p ∧ w.heap.size ≤ p' ∧ Blk (putB ((putB X g cs).alloc (.cells zs t2 (0, 0))) (putB X g cs).heap.size ds) p t1 cs ∧ Blk (putB ((putB X g cs).alloc (.cells zs t2 (0, 0))) (putB X g cs).heap.size ds) p' t2 ds ∧ Below w.heap.size w (putB ((putB X g cs).alloc (.cells zs t2 (0, 0))) (putB X g cs).heap.size ds) := by
  have hb := Big.same h1 cs e1
  have hl := hb.lt
  have hs : w.heap.size ≤ (putB X g cs).heap.size := by rw [putB_sz]; exact hX.size
  exact ⟨g, _, rfl, rfl, by omega, hg, hs, Blk.put (Blk.old hb _) (by omega) _, Big.same (hz ▸ (Blk.new _ _ _).big) _ rfl, g_put (g_alloc (g_put hX hg _) _) hs _⟩
theorem kpn5 {a b : World} {p0 p1 p2 p3 p4 o0 o1 o2 o3 o4 : Nat} {x0 x1 x2 x3 x4 : Value} (h : Below a.heap.size a b)
    (s : a.cell? ⟨p0, o0, none⟩ = some x0 ∧ a.cell? ⟨p1, o1, none⟩ = some x1 ∧ a.cell? ⟨p2, o2, none⟩ = some x2 ∧ a.cell? ⟨p3, o3, none⟩ = some x3 ∧ a.cell? ⟨p4, o4, none⟩ = some x4) : b.cell? ⟨p0, o0, none⟩ = some x0 ∧ b.cell? ⟨p1, o1, none⟩ = some x1 ∧ b.cell? ⟨p2, o2, none⟩ = some x2 ∧ b.cell? ⟨p3, o3, none⟩ = some x3 ∧ b.cell? ⟨p4, o4, none⟩ = some x4 :=
  ⟨keep1 h s.1, keep1 h s.2.1, keep1 h s.2.2.1, keep1 h s.2.2.2.1, keep1 h s.2.2.2.2⟩
theorem kpp5 {W : World} {g : Nat} {cs : Array Value} {p0 p1 p2 p3 p4 o0 o1 o2 o3 o4 : Nat} {x0 x1 x2 x3 x4 : Value} (h0 : ¬ p0 = g) (h1 : ¬ p1 = g) (h2 : ¬ p2 = g) (h3 : ¬ p3 = g) (h4 : ¬ p4 = g)
    (s : W.cell? ⟨p0, o0, none⟩ = some x0 ∧ W.cell? ⟨p1, o1, none⟩ = some x1 ∧ W.cell? ⟨p2, o2, none⟩ = some x2 ∧ W.cell? ⟨p3, o3, none⟩ = some x3 ∧ W.cell? ⟨p4, o4, none⟩ = some x4) : (putB W g cs).cell? ⟨p0, o0, none⟩ = some x0 ∧ (putB W g cs).cell? ⟨p1, o1, none⟩ = some x1 ∧ (putB W g cs).cell? ⟨p2, o2, none⟩ = some x2 ∧ (putB W g cs).cell? ⟨p3, o3, none⟩ = some x3 ∧ (putB W g cs).cell? ⟨p4, o4, none⟩ = some x4 :=
  ⟨(put_cell h0 _ _).trans s.1, (put_cell h1 _ _).trans s.2.1, (put_cell h2 _ _).trans s.2.2.1, (put_cell h3 _ _).trans s.2.2.2.1, (put_cell h4 _ _).trans s.2.2.2.2⟩
theorem kpn15 {a b : World} {p0 p1 p2 p3 p4 p5 p6 p7 p8 p9 p10 p11 p12 p13 p14 o0 o1 o2 o3 o4 o5 o6 o7 o8 o9 o10 o11 o12 o13 o14 : Nat} {x0 x1 x2 x3 x4 x5 x6 x7 x8 x9 x10 x11 x12 x13 x14 : Value} (h : Below a.heap.size a b)
    (s : a.cell? ⟨p0, o0, none⟩ = some x0 ∧ a.cell? ⟨p1, o1, none⟩ = some x1 ∧ a.cell? ⟨p2, o2, none⟩ = some x2 ∧ a.cell? ⟨p3, o3, none⟩ = some x3 ∧ a.cell? ⟨p4, o4, none⟩ = some x4 ∧ a.cell? ⟨p5, o5, none⟩ = some x5 ∧ a.cell? ⟨p6, o6, none⟩ = some x6 ∧ a.cell? ⟨p7, o7, none⟩ = some x7 ∧ a.cell? ⟨p8, o8, none⟩ = some x8 ∧ a.cell? ⟨p9, o9, none⟩ = some x9 ∧ a.cell? ⟨p10, o10, none⟩ = some x10 ∧ a.cell? ⟨p11, o11, none⟩ = some x11 ∧ a.cell? ⟨p12, o12, none⟩ = some x12 ∧ a.cell? ⟨p13, o13, none⟩ = some x13 ∧ a.cell? ⟨p14, o14, none⟩ = some x14) : b.cell? ⟨p0, o0, none⟩ = some x0 ∧ b.cell? ⟨p1, o1, none⟩ = some x1 ∧ b.cell? ⟨p2, o2, none⟩ = some x2 ∧ b.cell? ⟨p3, o3, none⟩ = some x3 ∧ b.cell? ⟨p4, o4, none⟩ = some x4 ∧ b.cell? ⟨p5, o5, none⟩ = some x5 ∧ b.cell? ⟨p6, o6, none⟩ = some x6 ∧ b.cell? ⟨p7, o7, none⟩ = some x7 ∧ b.cell? ⟨p8, o8, none⟩ = some x8 ∧ b.cell? ⟨p9, o9, none⟩ = some x9 ∧ b.cell? ⟨p10, o10, none⟩ = some x10 ∧ b.cell? ⟨p11, o11, none⟩ = some x11 ∧ b.cell? ⟨p12, o12, none⟩ = some x12 ∧ b.cell? ⟨p13, o13, none⟩ = some x13 ∧ b.cell? ⟨p14, o14, none⟩ = some x14 :=
  ⟨keep1 h s.1, keep1 h s.2.1, keep1 h s.2.2.1, keep1 h s.2.2.2.1, keep1 h s.2.2.2.2.1, keep1 h s.2.2.2.2.2.1, keep1 h s.2.2.2.2.2.2.1, keep1 h s.2.2.2.2.2.2.2.1, keep1 h s.2.2.2.2.2.2.2.2.1, keep1 h s.2.2.2.2.2.2.2.2.2.1, keep1 h s.2.2.2.2.2.2.2.2.2.2.1, keep1 h s.2.2.2.2.2.2.2.2.2.2.2.1, keep1 h s.2.2.2.2.2.2.2.2.2.2.2.2.1, keep1 h s.2.2.2.2.2.2.2.2.2.2.2.2.2.1, keep1 h s.2.2.2.2.2.2.2.2.2.2.2.2.2.2⟩
theorem kpn8 {a b : World} {p0 p1 p2 p3 p4 p5 p6 p7 o0 o1 o2 o3 o4 o5 o6 o7 : Nat} {x0 x1 x2 x3 x4 x5 x6 x7 : Value} (h : Below a.heap.size a b)
    (s : a.cell? ⟨p0, o0, none⟩ = some x0 ∧ a.cell? ⟨p1, o1, none⟩ = some x1 ∧ a.cell? ⟨p2, o2, none⟩ = some x2 ∧ a.cell? ⟨p3, o3, none⟩ = some x3 ∧ a.cell? ⟨p4, o4, none⟩ = some x4 ∧ a.cell? ⟨p5, o5, none⟩ = some x5 ∧ a.cell? ⟨p6, o6, none⟩ = some x6 ∧ a.cell? ⟨p7, o7, none⟩ = some x7) : b.cell? ⟨p0, o0, none⟩ = some x0 ∧ b.cell? ⟨p1, o1, none⟩ = some x1 ∧ b.cell? ⟨p2, o2, none⟩ = some x2 ∧ b.cell? ⟨p3, o3, none⟩ = some x3 ∧ b.cell? ⟨p4, o4, none⟩ = some x4 ∧ b.cell? ⟨p5, o5, none⟩ = some x5 ∧ b.cell? ⟨p6, o6, none⟩ = some x6 ∧ b.cell? ⟨p7, o7, none⟩ = some x7 :=
  ⟨keep1 h s.1, keep1 h s.2.1, keep1 h s.2.2.1, keep1 h s.2.2.2.1, keep1 h s.2.2.2.2.1, keep1 h s.2.2.2.2.2.1, keep1 h s.2.2.2.2.2.2.1, keep1 h s.2.2.2.2.2.2.2⟩
end Go.Proofs.YtgfgfggoofjeeaaGreat.DT
namespace Go.Proofs.YtgfgfggoofjeeaaGreat.DT
open Go.RowKit Go.Deep

/-- the tuples with a goal, and those with a subject -/
def ulT (t : Tup) : Gl := ⟨t.d, t.e, t.f⟩
def selG (g : Gl) (l : List Tup) : List Tup := l.filter fun t => decide (glT t = g)
def selU (g : Gl) (l : List Tup) : List Tup := l.filter fun t => decide (ulT t = g)
theorem cells6 {w : World} {b o k : Nat} {l : List Tup} (h : Go.Proofs.YtgfgfggoofjeeaaGreat.Lies w b o l) (hk : k < l.length) : w.cell? ⟨b, o + k * 6, none⟩ = some (.string l[k].a) ∧ w.cell? ⟨b, o + k * 6 + 1, none⟩ = some (.string l[k].b) ∧ w.cell? ⟨b, o + k * 6 + 2, none⟩ = some (.string l[k].c) ∧ w.cell? ⟨b, o + k * 6 + 3, none⟩ = some (.string l[k].d) ∧ w.cell? ⟨b, o + k * 6 + 4, none⟩ = some (.string l[k].e) ∧ w.cell? ⟨b, o + k * 6 + 5, none⟩ = some (.string l[k].f) :=
  ⟨h.2 k hk 0 _ rfl, h.2 k hk 1 _ rfl, h.2 k hk 2 _ rfl, h.2 k hk 3 _ rfl, h.2 k hk 4 _ rfl, h.2 k hk 5 _ rfl⟩
set_option maxRecDepth 20000 in
set_option maxHeartbeats 2000000 in
theorem rgoal_any (A : Option Addr) (l : List Tup) (n0 : Nat) (a b c : ByteArray) (w : World) (hR : Row w A l) (hn : l.length ≤ 10000) :
    Calls Tryz.prog 15 #[.slice A l.length n0, .agg #[.string a, .string b, .string c]] w fun e w' => ∃ v, e = .returned v ∧ Own w' w.heap.size v (selG ⟨a, b, c⟩ l) ∧ Below w.heap.size w w' := by
  have hA : Below w.heap.size w (w.alloc (.cells #[.string a, .string b, .string c] 45 (0, 0))) := g_alloc g_refl _
  have hb := new_at w (.cells #[.string a, .string b, .string c] 45 (0, 0))
  have HG := hid hb
  have HA := hid hA
  have HR := hid (hR.below hA)
  have HN := hid hn
  clear hA hb hR hn
  go_enter Tryz.func15, Tryz.ntmps15
  go_wp2_with fail
  generalize hA1 : w.alloc (.cells #[.string a, .string b, .string c] 45 (0, 0)) = A1 at *
  have HZ : Hid (w.heap.size ≤ A1.heap.size) := hid HA.out.size
  have HQ0 := hid (show w.heap.size < A1.heap.size from (Array.getElem?_eq_some_iff.1 HG.out).1)
  generalize hq : w.heap.size = q at *
  have HQ := hid hq
  clear hA1 hq
  go_loopw [5, 6] (fun v i wr => ∃ k : Nat, k ≤ l.length ∧ i = .int .i64 k ∧ Own wr A1.heap.size v (selG ⟨a, b, c⟩ (l.take k)) ∧ Below A1.heap.size A1 wr) (fun _ i _ => l.length - (intOf i).toNat)
  case atStart => exact ⟨0, Nat.zero_le _, rfl, Own.nil _ _, g_refl⟩
  case round =>
    obtain ⟨k, hk, rfl, hown, hw⟩ := hrel
    have HO := hid hown
    have HW := hid hw
    have hgb := (hw.block _ (Array.getElem?_eq_some_iff.1 HG.out).1).trans HG.out
    have g0 : wr.cell? ⟨q, 0, none⟩ = some (.string a) := (box_cell hgb 0).trans rfl
    have g1 : wr.cell? ⟨q, 1, none⟩ = some (.string b) := (box_cell hgb 1).trans rfl
    have g2 : wr.cell? ⟨q, 2, none⟩ = some (.string c) := (box_cell hgb 2).trans rfl
    have hN := HN.out
    by_cases hlt : k < l.length
    · have i1 : (k : Int) < (l.length : Int) := by omega
      have i2 : (0 : Int) ≤ (k : Int) := by omega
      have i3 : (l.length : Int) ≤ 10000 := by omega
      obtain ⟨b0, o, rfl, hL⟩ := (HR.out.below hw).at_ hlt
      have hsix := hL.six hlt
      have htake := List.take_succ_eq_append_getElem hlt
      generalize hx : l[k] = x at *
      have HT := hid htake
      obtain ⟨x0, x1, x2, x3, x4, x5⟩ := cells6 hL hlt
      rw [hx] at x0 x1 x2 x3 x4 x5
      obtain ⟨z, hz⟩ : ∃ z, decide (glT x = ⟨a, b, c⟩) = z := ⟨_, rfl⟩
      have HX := hid (show selG ⟨a, b, c⟩ (l.take (k + 1)) = if z then selG ⟨a, b, c⟩ (l.take k) ++ [x] else selG ⟨a, b, c⟩ (l.take k) by
        rw [htake, ← hz]; unfold selG; rw [List.filter_append]
        by_cases h : glT x = ⟨a, b, c⟩
        · simp [h]
        · simp [h])
      have hne := run_eqlG (glT x) ⟨a, b, c⟩ z hz
      simp only [glT] at hne
      have hlen : (selG ⟨a, b, c⟩ (l.take k)).length ≤ 10000 := by
        have h1 : (selG ⟨a, b, c⟩ (l.take k)).length ≤ (l.take k).length := List.length_filter_le _ _
        rw [List.length_take] at h1; omega
      have HLN := hid hlen
      generalize selG ⟨a, b, c⟩ (l.take k) = L at *
      clear hL hsix htake hx hz hlen hw hown hN HT
      cases z
      · go_wp2_with fail
        go_quiet (fail)
        generalize hY : wr.drewN nq = W2 at *
        have hb2 : Below wr.heap.size wr W2 := by rw [← hY]; exact g_drewN g_refl nq
        have HO2 := hid (HO.out.below hb2)
        have HW2 := hid (g_trans HW.out hb2)
        clear hY hb2
        go_wp2
        go_roundw
        case rel => exact ⟨k + 1, by omega, by go_num, by rw [HX.out]; exact HO2.out, HW2.out⟩
        case measure => simp [intOf]; omega
      · go_wp2_with fail
        go_quiet (fail)
        generalize hY : wr.drewN nq = W2 at *
        have hb2 : Below wr.heap.size wr W2 := by rw [← hY]; exact g_drewN g_refl nq
        have HO2 := hid (HO.out.below hb2)
        have HW2 := hid (g_trans HW.out hb2)
        have y6 : W2.cell? ⟨b0, o + k * 6, none⟩ = some (.string x.a) ∧ W2.cell? ⟨b0, o + k * 6 + 1, none⟩ = some (.string x.b) ∧ W2.cell? ⟨b0, o + k * 6 + 2, none⟩ = some (.string x.c) ∧ W2.cell? ⟨b0, o + k * 6 + 3, none⟩ = some (.string x.d) ∧ W2.cell? ⟨b0, o + k * 6 + 4, none⟩ = some (.string x.e) ∧ W2.cell? ⟨b0, o + k * 6 + 5, none⟩ = some (.string x.f) := by
          rw [← hY]; exact ⟨x0, x1, x2, x3, x4, x5⟩
        clear x0 x1 x2 x3 x4 x5
        obtain ⟨x0, x1, x2, x3, x4, x5⟩ := y6
        have hz := HW2.out.size
        clear hY hb2 g0 g1 g2 hne
        go_wp2_with (at_builtin; refine wp_app _ _ rfl rfl A1.heap.size _ L W2.heap.size 1 x rfl rfl (HO2.out.below (g_alloc g_refl _)) (new_cells W2 x _) (by have := HLN.out; omega) (by simp; omega) ?_)
        intro v5 w5 hown5 hg5 hd5
        have hw5 : Below A1.heap.size A1 w5 := (g_alloc HW2.out _).grown hg5 (g_alloc HW2.out _).size fun g hg => (HO2.out.lt g hg).1
        clear hd5 hg5 x0 x1 x2 x3 x4 x5
        go_wp2
        go_roundw
        case rel => exact ⟨k + 1, by omega, by go_num, by rw [HX.out]; exact hown5, hw5⟩
        case measure => simp [intOf]; omega
    · have i1 : ¬ (k : Int) < (l.length : Int) := by omega
      go_wp2
      go_ret
      rw [List.take_of_length_le (by omega)] at hown
      have h := HQ.out
      subst h
      exact ⟨_, rfl, World.ownsRow.mono hown HZ.out, g_trans HA.out HW.out⟩
set_option maxRecDepth 20000 in
set_option maxHeartbeats 2000000 in
theorem rsubject_any (A : Option Addr) (l : List Tup) (n0 : Nat) (a b c : ByteArray) (w : World) (hR : Row w A l) (hn : l.length ≤ 10000) :
    Calls Tryz.prog 16 #[.slice A l.length n0, .agg #[.string a, .string b, .string c]] w fun e w' => ∃ v, e = .returned v ∧ Own w' w.heap.size v (selU ⟨a, b, c⟩ l) ∧ Below w.heap.size w w' := by
  have hA : Below w.heap.size w (w.alloc (.cells #[.string a, .string b, .string c] 46 (0, 0))) := g_alloc g_refl _
  have hb := new_at w (.cells #[.string a, .string b, .string c] 46 (0, 0))
  have HG := hid hb
  have HA := hid hA
  have HR := hid (hR.below hA)
  have HN := hid hn
  clear hA hb hR hn
  go_enter Tryz.func16, Tryz.ntmps16
  go_wp2_with fail
  generalize hA1 : w.alloc (.cells #[.string a, .string b, .string c] 46 (0, 0)) = A1 at *
  have HZ : Hid (w.heap.size ≤ A1.heap.size) := hid HA.out.size
  have HQ0 := hid (show w.heap.size < A1.heap.size from (Array.getElem?_eq_some_iff.1 HG.out).1)
  generalize hq : w.heap.size = q at *
  have HQ := hid hq
  clear hA1 hq
  go_loopw [5, 6] (fun v i wr => ∃ k : Nat, k ≤ l.length ∧ i = .int .i64 k ∧ Own wr A1.heap.size v (selU ⟨a, b, c⟩ (l.take k)) ∧ Below A1.heap.size A1 wr) (fun _ i _ => l.length - (intOf i).toNat)
  case atStart => exact ⟨0, Nat.zero_le _, rfl, Own.nil _ _, g_refl⟩
  case round =>
    obtain ⟨k, hk, rfl, hown, hw⟩ := hrel
    have HO := hid hown
    have HW := hid hw
    have hgb := (hw.block _ (Array.getElem?_eq_some_iff.1 HG.out).1).trans HG.out
    have g0 : wr.cell? ⟨q, 0, none⟩ = some (.string a) := (box_cell hgb 0).trans rfl
    have g1 : wr.cell? ⟨q, 1, none⟩ = some (.string b) := (box_cell hgb 1).trans rfl
    have g2 : wr.cell? ⟨q, 2, none⟩ = some (.string c) := (box_cell hgb 2).trans rfl
    have hN := HN.out
    by_cases hlt : k < l.length
    · have i1 : (k : Int) < (l.length : Int) := by omega
      have i2 : (0 : Int) ≤ (k : Int) := by omega
      have i3 : (l.length : Int) ≤ 10000 := by omega
      obtain ⟨b0, o, rfl, hL⟩ := (HR.out.below hw).at_ hlt
      have hsix := hL.six hlt
      have htake := List.take_succ_eq_append_getElem hlt
      generalize hx : l[k] = x at *
      have HT := hid htake
      obtain ⟨x0, x1, x2, x3, x4, x5⟩ := cells6 hL hlt
      rw [hx] at x0 x1 x2 x3 x4 x5
      obtain ⟨z, hz⟩ : ∃ z, decide (ulT x = ⟨a, b, c⟩) = z := ⟨_, rfl⟩
      have HX := hid (show selU ⟨a, b, c⟩ (l.take (k + 1)) = if z then selU ⟨a, b, c⟩ (l.take k) ++ [x] else selU ⟨a, b, c⟩ (l.take k) by
        rw [htake, ← hz]; unfold selU; rw [List.filter_append]
        by_cases h : ulT x = ⟨a, b, c⟩
        · simp [h]
        · simp [h])
      have hne := run_eqlU (ulT x) ⟨a, b, c⟩ z hz
      simp only [ulT] at hne
      have hlen : (selU ⟨a, b, c⟩ (l.take k)).length ≤ 10000 := by
        have h1 : (selU ⟨a, b, c⟩ (l.take k)).length ≤ (l.take k).length := List.length_filter_le _ _
        rw [List.length_take] at h1; omega
      have HLN := hid hlen
      generalize selU ⟨a, b, c⟩ (l.take k) = L at *
      clear hL hsix htake hx hz hlen hw hown hN HT
      cases z
      · go_wp2_with fail
        go_quiet (fail)
        generalize hY : wr.drewN nq = W2 at *
        have hb2 : Below wr.heap.size wr W2 := by rw [← hY]; exact g_drewN g_refl nq
        have HO2 := hid (HO.out.below hb2)
        have HW2 := hid (g_trans HW.out hb2)
        clear hY hb2
        go_wp2
        go_roundw
        case rel => exact ⟨k + 1, by omega, by go_num, by rw [HX.out]; exact HO2.out, HW2.out⟩
        case measure => simp [intOf]; omega
      · go_wp2_with fail
        go_quiet (fail)
        generalize hY : wr.drewN nq = W2 at *
        have hb2 : Below wr.heap.size wr W2 := by rw [← hY]; exact g_drewN g_refl nq
        have HO2 := hid (HO.out.below hb2)
        have HW2 := hid (g_trans HW.out hb2)
        have y6 : W2.cell? ⟨b0, o + k * 6, none⟩ = some (.string x.a) ∧ W2.cell? ⟨b0, o + k * 6 + 1, none⟩ = some (.string x.b) ∧ W2.cell? ⟨b0, o + k * 6 + 2, none⟩ = some (.string x.c) ∧ W2.cell? ⟨b0, o + k * 6 + 3, none⟩ = some (.string x.d) ∧ W2.cell? ⟨b0, o + k * 6 + 4, none⟩ = some (.string x.e) ∧ W2.cell? ⟨b0, o + k * 6 + 5, none⟩ = some (.string x.f) := by
          rw [← hY]; exact ⟨x0, x1, x2, x3, x4, x5⟩
        clear x0 x1 x2 x3 x4 x5
        obtain ⟨x0, x1, x2, x3, x4, x5⟩ := y6
        have hz := HW2.out.size
        clear hY hb2 g0 g1 g2 hne
        go_wp2_with (at_builtin; refine wp_app _ _ rfl rfl A1.heap.size _ L W2.heap.size 1 x rfl rfl (HO2.out.below (g_alloc g_refl _)) (new_cells W2 x _) (by have := HLN.out; omega) (by simp; omega) ?_)
        intro v5 w5 hown5 hg5 hd5
        have hw5 : Below A1.heap.size A1 w5 := (g_alloc HW2.out _).grown hg5 (g_alloc HW2.out _).size fun g hg => (HO2.out.lt g hg).1
        clear hd5 hg5 x0 x1 x2 x3 x4 x5
        go_wp2
        go_roundw
        case rel => exact ⟨k + 1, by omega, by go_num, by rw [HX.out]; exact hown5, hw5⟩
        case measure => simp [intOf]; omega
    · have i1 : ¬ (k : Int) < (l.length : Int) := by omega
      go_wp2
      go_ret
      rw [List.take_of_length_le (by omega)] at hown
      have h := HQ.out
      subst h
      exact ⟨_, rfl, World.ownsRow.mono hown HZ.out, g_trans HA.out HW.out⟩
end Go.Proofs.YtgfgfggoofjeeaaGreat.DT
namespace Go.Proofs.YtgfgfggoofjeeaaGreat.DT
open Go.RowKit Go.Deep

theorem selG_ofG (a b c : ByteArray) (l : List Tup) : selG ⟨a, b, c⟩ l = ofG a b c l := by
  unfold selG ofG
  congr 1
  funext t
  simp [glT]
theorem selU_ofU (a b c : ByteArray) (l : List Tup) : selU ⟨a, b, c⟩ l = ofU a b c l := by
  unfold selU ofU
  congr 1
  funext t
  simp [ulT]
theorem gls_last : ∀ (l : List Tup), (gls l).getLast? = l.getLast?.map glT := by
  intro l
  have : ∀ (m : List Gl) (o : List Gl), (m.foldl addG o).getLast? = m.getLast?.or o.getLast? := by
    intro m
    induction m with
    | nil => intro o; simp
    | cons x r ih =>
      intro o
      rw [List.foldl_cons, ih]
      have h2 : (addG o x).getLast? = some x := by
        unfold addG; split
        · assumption
        · simp
      rw [h2]
      cases r with
      | nil => simp
      | cons y s =>
        rw [List.getLast?_cons_cons]
        cases h : (y :: s).getLast? with
        | none => simp at h
        | some q => simp
  unfold gls
  rw [this]
  simp
/-- a goal that is the one before it is not taken again -/
theorem gls_next {l : List Tup} {k : Nat} (h : k + 1 < l.length) : gls (l.take (k + 1 + 1)) = if glT l[k + 1] = glT l[k] then gls (l.take (k + 1)) else gls (l.take (k + 1)) ++ [glT l[k + 1]] := by
  rw [gls_step h]
  unfold addG
  have e : (gls (l.take (k + 1))).getLast? = some (glT l[k]) := by
    rw [gls_last, List.getLast?_take]
    simp [show k < l.length by omega]
  rw [e]
  by_cases c : glT l[k + 1] = glT l[k]
  · rw [if_pos c, if_pos (by rw [c])]
  · rw [if_neg c, if_neg (fun q => c (by injection q with q; exact q.symm))]
set_option maxRecDepth 20000 in
set_option maxHeartbeats 2000000 in
theorem rgoals_any (A : Option Addr) (l : List Tup) (n0 : Nat) (w : World) (hR : Row w A l) (hn : l.length ≤ 10000) :
    Calls Tryz.prog 13 #[.slice A l.length n0] w fun e w' => ∃ v, e = .returned v ∧ OwnG w' w.heap.size v (gls l) ∧ Below w.heap.size w w' := by
  have HR := hid hR
  have HN := hid hn
  clear hR hn
  go_enter Tryz.func13, Tryz.ntmps13
  go_wp2_with fail
  go_loopw [3, 4] (fun v i wr => ∃ k : Nat, k ≤ l.length ∧ i = .int .i64 k ∧ OwnG wr w.heap.size v (gls (l.take k)) ∧ Below w.heap.size w wr) (fun _ i _ => l.length - (intOf i).toNat)
  case atStart => exact ⟨0, Nat.zero_le _, rfl, OwnG.nil _ _, g_refl⟩
  case round =>
    obtain ⟨k, hk, rfl, hown, hw⟩ := hrel
    have HO := hid hown
    have HW := hid hw
    have hN := HN.out
    by_cases hlt : k < l.length
    · have i1 : (k : Int) < (l.length : Int) := by omega
      have i2 : (0 : Int) ≤ (k : Int) := by omega
      have i3 : (l.length : Int) ≤ 10000 := by omega
      obtain ⟨b0, o, rfl, hL⟩ := (HR.out.below hw).at_ hlt
      have hgl := gls_len (l.take k)
      rw [List.length_take] at hgl
      obtain ⟨x0, x1, x2, -, -, -⟩ := cells6 hL hlt
      generalize hx : l[k] = x at *
      have HX : Hid (l[k] = x) := hid hx
      have HGL : Hid ((gls (l.take k)).length ≤ 10000) := hid (by omega)
      by_cases hk0 : k = 0
      · have e0 : ((k : Int) == 0) = true := by rw [hk0]; rfl
        have HST := hid (show gls (l.take (k + 1)) = gls (l.take k) ++ [glT x] by
          subst hk0
          rw [gls_step hlt, ← hx]; simp [gls, addG])
        generalize gls (l.take k) = L at *
        clear hown hw hL hx hgl hk0
        go_wp2_with fail
        go_quiet (fail)
        generalize hY : wr.drewN nq = W2 at *
        have hb2 : Below wr.heap.size wr W2 := by rw [← hY]; exact g_drewN g_refl nq
        have HO2 := hid (OwnG.below HO.out hb2)
        have HW2 := hid (g_trans HW.out hb2)
        have y3 : W2.cell? ⟨b0, o + k * 6, none⟩ = some (.string x.a) ∧ W2.cell? ⟨b0, o + k * 6 + 1, none⟩ = some (.string x.b) ∧ W2.cell? ⟨b0, o + k * 6 + 2, none⟩ = some (.string x.c) := by rw [← hY]; exact ⟨x0, x1, x2⟩
        clear x0 x1 x2 hY hb2
        obtain ⟨x0, x1, x2⟩ := y3
        have hz := HW2.out.size
        go_wp2_with (at_builtin; refine wp_appG _ _ rfl rfl w.heap.size _ L W2.heap.size 1 (glT x) rfl rfl (OwnG.below HO2.out (g_alloc g_refl _)) (new_cellsG W2 (glT x) _) (by have := HGL.out; omega) (by simp; omega) ?_)
        intro v5 w5 hown5 hg5 hd5
        have hw5 : Below w.heap.size w w5 := (g_alloc HW2.out _).grown hg5 (g_alloc HW2.out _).size fun g hg => (OwnG.lt HO2.out g hg).1
        clear hd5 hg5 x0 x1 x2
        go_wp2
        go_roundw
        case rel => exact ⟨k + 1, by omega, by go_num, by rw [HST.out]; exact hown5, hw5⟩
        case measure => simp [intOf]; omega
      · obtain ⟨j, hj⟩ : ∃ j, k = j + 1 := ⟨k - 1, by omega⟩
        have e0 : ((k : Int) == 0) = false := beq_eq_false_iff_ne.2 (by omega)
        have e1 : (k : Int) - 1 = (j : Int) := by omega
        have e2 : (0 : Int) ≤ (j : Int) := by omega
        have e3 : (j : Int) < (l.length : Int) := by omega
        obtain ⟨y0, y1, y2, -, -, -⟩ := cells6 hL (show j < l.length by omega)
        obtain ⟨y, hy⟩ : ∃ y, l[j] = y := ⟨_, rfl⟩
        rw [hy] at y0 y1 y2
        obtain ⟨z, hz⟩ : ∃ z, decide (glT x = glT y) = z := ⟨_, rfl⟩
        have HST := hid (show gls (l.take (k + 1)) = if z then gls (l.take k) else gls (l.take k) ++ [glT x] by
          subst hj
          rw [gls_next hlt, hx, hy, ← hz]
          by_cases c : glT x = glT y <;> simp [c])
        have hne := run_neqG (glT x) (glT y) z hz
        simp only [glT] at hne
        generalize gls (l.take k) = L at *
        clear hown hw hL hx hgl hk0 hj hy hz
        cases z
        · go_wp2_with fail
          go_quiet (fail)
          generalize hY : wr.drewN nq = W2 at *
          have hb2 : Below wr.heap.size wr W2 := by rw [← hY]; exact g_drewN g_refl nq
          have HO2 := hid (OwnG.below HO.out hb2)
          have HW2 := hid (g_trans HW.out hb2)
          have y3 : W2.cell? ⟨b0, o + k * 6, none⟩ = some (.string x.a) ∧ W2.cell? ⟨b0, o + k * 6 + 1, none⟩ = some (.string x.b) ∧ W2.cell? ⟨b0, o + k * 6 + 2, none⟩ = some (.string x.c) := by rw [← hY]; exact ⟨x0, x1, x2⟩
          clear x0 x1 x2 y0 y1 y2 hY hb2 hne
          obtain ⟨x0, x1, x2⟩ := y3
          have hz := HW2.out.size
          go_wp2_with (at_builtin; refine wp_appG _ _ rfl rfl w.heap.size _ L W2.heap.size 1 (glT x) rfl rfl (OwnG.below HO2.out (g_alloc g_refl _)) (new_cellsG W2 (glT x) _) (by have := HGL.out; omega) (by simp; omega) ?_)
          intro v5 w5 hown5 hg5 hd5
          have hw5 : Below w.heap.size w w5 := (g_alloc HW2.out _).grown hg5 (g_alloc HW2.out _).size fun g hg => (OwnG.lt HO2.out g hg).1
          clear hd5 hg5 x0 x1 x2
          go_wp2
          go_roundw
          case rel => exact ⟨k + 1, by omega, by go_num, by rw [HST.out]; exact hown5, hw5⟩
          case measure => simp [intOf]; omega
        · go_wp2_with fail
          go_quiet (fail)
          generalize hY : wr.drewN nq = W2 at *
          have hb2 : Below wr.heap.size wr W2 := by rw [← hY]; exact g_drewN g_refl nq
          have HO2 := hid (OwnG.below HO.out hb2)
          have HW2 := hid (g_trans HW.out hb2)
          clear hY hb2
          go_wp2
          go_roundw
          case rel => exact ⟨k + 1, by omega, by go_num, by rw [HST.out]; exact HO2.out, HW2.out⟩
          case measure => simp [intOf]; omega
    · have i1 : ¬ (k : Int) < (l.length : Int) := by omega
      go_wp2
      go_ret
      rw [List.take_of_length_le (by omega)] at hown
      exact ⟨_, rfl, hown, HW.out⟩
end Go.Proofs.YtgfgfggoofjeeaaGreat.DT
namespace Go.Proofs.YtgfgfggoofjeeaaGreat
open Go.RowKit Go.Sort

theorem ordL_e {p u : ByteArray} {r : List (ByteArray × ByteArray)} {z : Int} (h : p.toList.isEmpty = true) : ordL ((p, u) :: r) z = 0 := by simp only [ordL]; rw [if_pos h]
theorem ordL_z {p u : ByteArray} {r : List (ByteArray × ByteArray)} {z : Int} (h : p.toList.isEmpty = false) (k : cmpS u p = 0) : ordL ((p, u) :: r) z = ordL r z := by simp only [ordL]; rw [if_neg (by rw [h]; decide), if_pos k]
theorem ordL_n {p u : ByteArray} {r : List (ByteArray × ByteArray)} {z v : Int} (h : p.toList.isEmpty = false) (k : cmpS u p = v) (n : ¬ v = 0) : ordL ((p, u) :: r) z = v := by simp only [ordL]; rw [if_neg (by rw [h]; decide), if_neg (by rw [k]; exact n), k]



/-- one cell, in every world that grew -/
def One1 (w : World) (b : Nat) (v : Value) : Prop := ∀ n os, (grow (w.drewN n) os).cell? ⟨b, 0, none⟩ = some v
theorem one1_of {w : World} {b : Nat} {v : Value} (h : w.cell? ⟨b, 0, none⟩ = some v) (hb : b < w.heap.size) : One1 w b v := fun n os => ((Grew.of_grow w n os).toBelow.cell (p := ⟨b, 0, none⟩) hb).trans h


/-- how many tuples of a list lie ahead -/
def ahead (f : Fil) (k : Int) (l : List Tup) : Nat := l.countP fun t => decide (ford f t < k)
theorem ahead_le (f : Fil) (k : Int) (l : List Tup) : ahead f k l ≤ l.length := List.countP_le_length
theorem ahead_lt {l : List Tup} (hl : Asc cmpT l) (f : Fil) (k : Int) (i : Nat) (h : i < l.length) : ford f l[i] < k ↔ i < ahead f k l := by
  have := cnt_lt (fun t => decide (ford f t < k)) (l := l) (hl.imp fun {x y} hxy e => by simp at e ⊢; have := ford_mono f (Int.le_of_lt hxy); omega) i h
  simpa [ahead] using this
end Go.Proofs.YtgfgfggoofjeeaaGreat
namespace Go.Proofs.YtgfgfggoofjeeaaGreat
open Go.RowKit Go.Sort

/-- the number of the error of a span -/
def serr (f : Fil) (l : List Tup) : Int := if fchk f = 0 then (if isB cmpT l = true then 0 else 18) else fchk f
theorem serr_chk {f : Fil} {l : List Tup} (h : ¬ fchk f = 0) : serr f l = fchk f := by unfold serr; rw [if_neg h]
theorem serr_ord {f : Fil} {l : List Tup} (h : fchk f = 0) (k : isB cmpT l = false) : serr f l = 18 := by unfold serr; rw [if_pos h, if_neg (by rw [k]; decide)]
theorem serr_ok {f : Fil} {l : List Tup} (h : fchk f = 0) (k : isB cmpT l = true) : serr f l = 0 := by unfold serr; rw [if_pos h, if_pos k]
theorem fcheck_v (a b c d e f : ByteArray) (x : Bool) (n : Int) (w : World) (h : FitF ⟨a, b, c, d, e, f, x⟩) (hn : fchk ⟨a, b, c, d, e, f, x⟩ = n) :
    Calls Tryz.prog 32 #[.agg #[.string a, .string b, .string c, .string d, .string e, .string f, .bool x]] w fun r w' => r = .returned (.int .i64 n) ∧ Below w.heap.size w w' := by
  have q := fcheck ⟨a, b, c, d, e, f, x⟩ w h; rw [hn] at q; exact q


/-- what select leaves -/
def SelRet (w : World) (L : List Tup) (e : Ending) (w' : World) : Prop := ∃ A, e = .returned (.tuple #[.slice A L.length L.length, .int .i64 0]) ∧ Row w' A L ∧ ((A = none ∧ L = []) ∨ ∃ g, A = some ⟨g, 0, none⟩) ∧ Below w.heap.size w w'
theorem cut_row {w : World} {b o : Nat} {l : List Tup} {f : Fil} (h : Row w (some ⟨b, o, none⟩) l) : Row w (some ⟨b, o + lo f l * 6, none⟩) (cutL f l) := fun hne => by
  obtain ⟨b', o', e, hb, hL⟩ := h (fun e => hne (by subst e; rfl))
  injection e with e; injection e with e1 e2; subst e1; subst e2
  refine ⟨b, _, rfl, hb, fun i hi c v hv => ?_⟩
  have hl := cut_len f l
  have hh := hi_le f l
  have e : (cutL f l)[i] = l[lo f l + i]'(by omega) := by simp [cutL]
  rw [e] at hv
  have h1 := hL (lo f l + i) (by omega) c v hv
  rw [show o + lo f l * 6 + i * 6 + c = o + (lo f l + i) * 6 + c by rw [Nat.add_mul]; omega]
  exact h1
theorem span_none (f : Fil) : lo f [] = 0 ∧ hi f [] = 0 := ⟨rfl, rfl⟩
end Go.Proofs.YtgfgfggoofjeeaaGreat
namespace Go.Proofs.YtgfgfggoofjeeaaGreat
open Go.RowKit Go.Sort

theorem fst0 {f : Fil} (h : f.a.toList.isEmpty = true) : fst1 f = ⟨⟨#[]⟩, ⟨#[]⟩, ⟨#[]⟩, ⟨#[]⟩, ⟨#[]⟩, ⟨#[]⟩, false⟩ := by unfold fst1; rw [if_pos h]
theorem fst11 {f : Fil} (h : f.a.toList.isEmpty = false) (k : f.b.toList.isEmpty = true) : fst1 f = ⟨f.a, ⟨#[]⟩, ⟨#[]⟩, ⟨#[]⟩, ⟨#[]⟩, ⟨#[]⟩, false⟩ := by unfold fst1; rw [if_neg (by rw [h]; decide), if_pos k]
theorem fst2 {f : Fil} (h : f.a.toList.isEmpty = false) (k : f.b.toList.isEmpty = false) (l : f.c.toList.isEmpty = true) : fst1 f = ⟨f.a, f.b, ⟨#[]⟩, ⟨#[]⟩, ⟨#[]⟩, ⟨#[]⟩, false⟩ := by unfold fst1; rw [if_neg (by rw [h]; decide), if_neg (by rw [k]; decide), if_pos l]
theorem fst3 {f : Fil} (h : f.a.toList.isEmpty = false) (k : f.b.toList.isEmpty = false) (l : f.c.toList.isEmpty = false) (x : f.x = false) : fst1 f = ⟨f.a, f.b, f.c, ⟨#[]⟩, ⟨#[]⟩, ⟨#[]⟩, false⟩ := by unfold fst1; rw [if_neg (by rw [h]; decide), if_neg (by rw [k]; decide), if_neg (by rw [l]; decide), if_neg (by rw [x]; decide)]
theorem fst4 {f : Fil} (h : f.a.toList.isEmpty = false) (k : f.b.toList.isEmpty = false) (l : f.c.toList.isEmpty = false) (x : f.x = true) : fst1 f = f := by unfold fst1; rw [if_neg (by rw [h]; decide), if_neg (by rw [k]; decide), if_neg (by rw [l]; decide), if_pos x]






theorem rtakes_q (f : Fil) (t : Tup) (v : Int) (hv : takesI f t = v) (w : World) (n : Nat) (os : Array Obj) :
    Calls Tryz.prog 62 #[valF f, val t] (grow (w.drewN n) os) fun e w'' => e = .returned (.int .i64 v) ∧ ∃ p : GrownBy, w'' = grow (w.drewN p.n) p.os :=
  Calls.grown_of ((rtakes f t _).mono fun _ _ h => ⟨by rw [h.1, hv], h.2.out⟩)
/-- a filter in a block, in every world that grew -/
def FG (w : World) (b : Nat) (f : Fil) : Prop :=
  (∀ n os, (grow (w.drewN n) os).cell? ⟨b, 0, none⟩ = some (.string f.a)) ∧ (∀ n os, (grow (w.drewN n) os).cell? ⟨b, 1, none⟩ = some (.string f.b)) ∧ (∀ n os, (grow (w.drewN n) os).cell? ⟨b, 2, none⟩ = some (.string f.c)) ∧
  (∀ n os, (grow (w.drewN n) os).cell? ⟨b, 3, none⟩ = some (.string f.d)) ∧ (∀ n os, (grow (w.drewN n) os).cell? ⟨b, 4, none⟩ = some (.string f.e)) ∧ (∀ n os, (grow (w.drewN n) os).cell? ⟨b, 5, none⟩ = some (.string f.f)) ∧ (∀ n os, (grow (w.drewN n) os).cell? ⟨b, 6, none⟩ = some (.bool f.x))
theorem FB.grown {w : World} {b : Nat} {f : Fil} (h : FB w b f) : FG w b f := by
  obtain ⟨h0, h1, h2, h3, h4, h5, h6, h7⟩ := h
  have k : ∀ (n : Nat) (os : Array Obj) (o : Nat), (grow (w.drewN n) os).cell? ⟨b, o, none⟩ = w.cell? ⟨b, o, none⟩ := fun n os o => (Grew.of_grow w n os).toBelow.cell (p := ⟨b, o, none⟩) h7
  exact ⟨fun n os => (k n os _).trans h0, fun n os => (k n os _).trans h1, fun n os => (k n os _).trans h2, fun n os => (k n os _).trans h3, fun n os => (k n os _).trans h4, fun n os => (k n os _).trans h5, fun n os => (k n os _).trans h6⟩
theorem tkI_yes {f : Fil} {t : Tup} (h : takes f t = true) : takesI f t = 1 := by unfold takesI; rw [if_pos h]
theorem tkI_no {f : Fil} {t : Tup} (h : takes f t = false) : takesI f t = 0 := by unfold takesI; rw [if_neg (by rw [h]; decide)]

set_option maxRecDepth 20000 in
set_option maxHeartbeats 4000000 in
theorem rselect (f : Fil) (A : Option Addr) (l : List Tup) (c : Nat) (w : World) (hR : Row w A l) (hn : l.length ≤ 9000) :
    Calls Tryz.prog 40 #[.slice A l.length c, valF f] w (Gives w (l.filter (takes f))) := by
  have hmx := mixed
  have HR := hid hR; clear hR
  obtain ⟨a, b', c', d, e, f, x⟩ := f
  simp only [valF]
  have HFB0 : Hid (FB (w.alloc (.cells #[.string a, .string b', .string c', .string d, .string e, .string f, .bool x] 51)) w.heap.size ⟨a, b', c', d, e, f, x⟩) := hid (by simp only [FB]; exact ⟨by go_simp, by go_simp, by go_simp, by go_simp, by go_simp, by go_simp, by go_simp, by simp⟩)
  go_enter Tryz.func40, Tryz.ntmps40
  go_wp2
  go_loopw [5, 6] (fun v i wr => ∃ k : Nat, k ≤ l.length ∧ i = .int .i64 k ∧ Own wr (w.heap.size + 1) v (selK ⟨a, b', c', d, e, f, x⟩ l k) ∧ Grew (w.alloc (.cells #[.string a, .string b', .string c', .string d, .string e, .string f, .bool x] 51)) wr) (fun _ i _ => l.length - (intOf i).toNat)
  case atStart => exact ⟨0, Nat.zero_le _, rfl, Own.nil _ _, gw_refl⟩
  case round =>
    obtain ⟨k, hk, rfl, hown, hw⟩ := hrel
    have HO := hid hown; clear hown
    by_cases hlt : k < l.length
    · obtain ⟨b, o, rfl, hL⟩ := ((HR.out.gw (gw_alloc gw_refl _)).gw hw).at_ hlt
      obtain ⟨q0, q1, q2, q3, q4, q5⟩ := hL.six hlt
      obtain ⟨p0, p1, p2, p3, p4, p5, p6⟩ := (HFB0.out.keep hw.toBelow).grown
      have HLS := hid hL; clear hL
      cases hu : takes ⟨a, b', c', d, e, f, x⟩ l[k]
      · have HU := hid hu; clear hu
        go_wp2_with fail
        go_quiet_grown (first | (go_at_call 62; exact rtakes_q ⟨a, b', c', d, e, f, x⟩ l[k] 0 (tkI_no HU.out) _ _ _))
        go_wp2
        go_roundw
        case rel => exact ⟨k + 1, by omega, by go_num, by rw [selK_no hlt HU.out]; exact HO.out.gw (gw_grow (gw_drewN gw_refl _) _), gw_grow (gw_drewN hw _) _⟩
        case measure => simp [intOf]; omega
      · have HU := hid hu; clear hu
        have hlen := selK_len ⟨a, b', c', d, e, f, x⟩ l k
        go_wp2_with fail
        go_quiet_grown (first | (go_at_call 62; exact rtakes_q ⟨a, b', c', d, e, f, x⟩ l[k] 1 (tkI_yes HU.out) _ _ _))
        have hw5 := gw_grow (gw_drewN hw nq) osq
        have hO5 := HO.out.gw (gw_grow (gw_drewN (gw_refl (a := wr)) nq) osq)
        have hL5 := HLS.out.below (gw_grow (gw_drewN (gw_refl (a := wr)) nq) osq).toBelow
        generalize grow (wr.drewN nq) osq = w5 at *
        clear p0 p1 p2 p3 p4 p5 p6 q0 q1 q2 q3 q4 q5 HO
        obtain ⟨q0, q1, q2, q3, q4, q5⟩ := (hL5.six hlt).at0
        have hz := hw5.size
        clear hL5
        go_wp2_with (at_builtin; refine wp_app _ _ rfl rfl (w.heap.size + 1) _ (selK ⟨a, b', c', d, e, f, x⟩ l k) w5.heap.size 1 l[k] rfl rfl (hO5.gw (gw_alloc gw_refl _)) (new_cells w5 l[k] _) (by omega) (by simp at hz ⊢; omega) ?_)
        intro v5 w6 hown6 hg6 hd6
        have hw6 : Grew (w.alloc (.cells #[.string a, .string b', .string c', .string d, .string e, .string f, .bool x] 51)) w6 := gw_grown (gw_alloc hw5 _) hg6 hd6 fun g hg => by have := (hO5.lt g hg).1; simpa using this
        go_wp2
        go_roundw
        case rel => exact ⟨k + 1, by omega, by go_num, by rw [← selK_yes hlt HU.out]; exact hown6, hw6⟩
        case measure => simp [intOf]; omega
    · have HE := hid (selK_end (f := ⟨a, b', c', d, e, f, x⟩) hlt)
      go_wp2
      go_ret
      exact ⟨_, rfl, by rw [← HE.out]; exact HO.out.mono (Nat.le_succ _), gw_trans (gw_alloc gw_refl _) hw⟩

/-- what the first loop of Span holds -/
def sA (n0 n1 k : Nat) : Int := if n0 < min k n1 then n0 else -1
def sB (n0 n1 k : Nat) : Int := if n0 < min k n1 then (min k n1 : Nat) else -1
theorem sA_neg {n0 n1 k : Nat} (h : ¬ n0 < min k n1) : sA n0 n1 k = -1 ∧ sB n0 n1 k = -1 := by unfold sA sB; rw [if_neg h, if_neg h]; exact ⟨rfl, rfl⟩
theorem sA_pos {n0 n1 k : Nat} (h : n0 < min k n1) : sA n0 n1 k = n0 ∧ sB n0 n1 k = (min k n1 : Nat) := by unfold sA sB; rw [if_pos h, if_pos h]; exact ⟨rfl, rfl⟩
theorem sA_keep {n0 n1 k : Nat} (h : ¬ (n0 ≤ k ∧ k < n1)) (hn : n0 ≤ n1) : sA n0 n1 (k + 1) = sA n0 n1 k ∧ sB n0 n1 (k + 1) = sB n0 n1 k := by
  by_cases h1 : n0 < min k n1
  · have h2 : n0 < min (k + 1) n1 := by omega
    rw [(sA_pos h1).1, (sA_pos h1).2, (sA_pos h2).1, (sA_pos h2).2]
    exact ⟨rfl, by omega⟩
  · have h2 : ¬ n0 < min (k + 1) n1 := by omega
    rw [(sA_neg h1).1, (sA_neg h1).2, (sA_neg h2).1, (sA_neg h2).2]
    exact ⟨rfl, rfl⟩
end Go.Proofs.YtgfgfggoofjeeaaGreat
namespace Go.Proofs.YtgfgfggoofjeeaaGreat.DT
open Go.RowKit Go.Deep
theorem rfcheck_s (a b c d e f : ByteArray) (x : Bool) (n : Int) (w : World) (h : FitF ⟨a, b, c, d, e, f, x⟩) (hn : fchk ⟨a, b, c, d, e, f, x⟩ = n) :
    Calls Tryz.prog 39 #[.agg #[.string a, .string b, .string c, .string d, .string e, .string f, .bool x]] w fun r w' => r = .returned (.int .i64 n) ∧ Below w.heap.size w w' := by
  have q := rfcheck ⟨a, b, c, d, e, f, x⟩ w h; rw [hn] at q; exact q
theorem rselect_s (f : Fil) (A : Option Addr) (l : List Tup) (c : Nat) (w : World) (hR : Row w A l) (hn : l.length ≤ 9000) :
    Calls Tryz.prog 40 #[.slice A l.length c, valF f] w fun e w' => ∃ v, e = .returned v ∧ Own w' w.heap.size v (l.filter (takes f)) ∧ Below w.heap.size w w' :=
  (rselect f A l c w hR hn).mono fun _ _ ⟨v, he, hO, hg⟩ => ⟨v, he, hO, hg.toBelow⟩

set_option maxRecDepth 20000 in
set_option maxHeartbeats 1000000 in
theorem rmatch_any (f : Fil) (A : Option Addr) (l : List Tup) (n0 : Nat) (w : World) (hR : Row w A l) (hn : l.length ≤ 9000) (hF : FitF f) :
    Calls Tryz.prog 17 #[.slice A l.length n0, .agg #[.string f.a, .string f.b, .string f.c, .string f.d, .string f.e, .string f.f, .bool f.x]] w fun e w' => ∃ v, e = .returned v ∧ Own w' w.heap.size v (mtc f l) ∧ Below w.heap.size w w' := by
  obtain ⟨a, b, c, d, e, f, x⟩ := f
  obtain ⟨n, hn1⟩ : ∃ n, fchk ⟨a, b, c, d, e, f, x⟩ = n := ⟨_, rfl⟩
  have HP := hid (fun W => rfcheck_s a b c d e f x n W hF hn1)
  have HS := hid (fun (W : World) (h : Row W A l) => rselect_s ⟨a, b, c, d, e, f, x⟩ A l n0 W h hn)
  have hA : Below w.heap.size w (w.alloc (.cells #[.string a, .string b, .string c, .string d, .string e, .string f, .bool x] 51 (0, 0))) := g_alloc g_refl _
  have HA := hid hA
  have HX := hid (new_at w (.cells #[.string a, .string b, .string c, .string d, .string e, .string f, .bool x] 51 (0, 0)))
  have HR := hid (hR.below hA)
  have HM : Hid (n = 0 → mtc ⟨a, b, c, d, e, f, x⟩ l = l.filter (takes ⟨a, b, c, d, e, f, x⟩)) := hid (fun h => by unfold mtc; rw [if_pos (hn1.trans h)])
  have HM2 : Hid (¬ n = 0 → mtc ⟨a, b, c, d, e, f, x⟩ l = []) := hid (fun h => by unfold mtc; rw [if_neg (by rw [hn1]; exact h)])
  clear hR hn hF hn1 hA
  simp only [valF] at HS
  go_enter Tryz.func17, Tryz.ntmps17
  go_wp2_with fail
  refine (HP.out _).mono ?_
  rintro _ w1 ⟨rfl, hb1⟩
  have HB1 := hid (g_trans HA.out hb1)
  have HR1 := hid (HR.out.below hb1)
  have hx := (hb1.block _ (Array.getElem?_eq_some_iff.1 HX.out).1).trans HX.out
  have c0 : w1.cell? ⟨w.heap.size, 0, none⟩ = some (.string a) := (box_cell hx 0).trans rfl
  have c1 : w1.cell? ⟨w.heap.size, 1, none⟩ = some (.string b) := (box_cell hx 1).trans rfl
  have c2 : w1.cell? ⟨w.heap.size, 2, none⟩ = some (.string c) := (box_cell hx 2).trans rfl
  have c3 : w1.cell? ⟨w.heap.size, 3, none⟩ = some (.string d) := (box_cell hx 3).trans rfl
  have c4 : w1.cell? ⟨w.heap.size, 4, none⟩ = some (.string e) := (box_cell hx 4).trans rfl
  have c5 : w1.cell? ⟨w.heap.size, 5, none⟩ = some (.string f) := (box_cell hx 5).trans rfl
  have c6 : w1.cell? ⟨w.heap.size, 6, none⟩ = some (.bool x) := (box_cell hx 6).trans rfl
  clear hb1 hx
  by_cases h0 : n = 0
  · have HM0 := hid (HM.out h0)
    clear HM HM2
    subst h0
    go_wp2_with fail
    refine (HS.out _ HR1.out).mono ?_
    rintro _ w2 ⟨v, rfl, hO, hb2⟩
    go_wp2
    go_ret
    rw [HM0.out]
    exact ⟨_, rfl, World.ownsRow.mono hO HB1.out.size, g_trans HB1.out hb2⟩
  · have h1 : ¬ (n : Int) = 0 := h0
    go_wp2
    go_ret
    rw [HM2.out h0]
    exact ⟨_, rfl, Own.nil _ _, HB1.out⟩
end Go.Proofs.YtgfgfggoofjeeaaGreat.DT
namespace Go.Proofs.YtgfgfggoofjeeaaGreat
open Go.ChangeShapes Go.WideShapes Go.ChangeAt Go.RowKit Go.Deep Go.Sort
variable {H : Type} {enc : TypeId × Value → H} {P : Program} {w : World} {base : Nat} {spare : Nat → Bool} {held : Bool}

/-- two strings of a struct -/
theorem trod_obj {o s : TypeId} {f0 f1 : Field} {fuel : Nat} {u v : Value} {x : DataW H × List MemPlace} (ho : P.underlying o = some (.struct #[f0, f1])) (t0 : f0.type = s) (t1 : f1.type = s) (o0 : f0.offset = 0) (o1 : f1.offset = 1) (cs : P.cellsOf s = 1) (hs : P.underlying s = some .string)
    (h : DataW.trod enc P w base spare held fuel o [u, v] = some x) : ∃ a b : ByteArray, u = .string a ∧ v = .string b ∧ a.size ≤ maxLen ∧ b.size ≤ maxLen := by
  obtain ⟨y0, y1, n, _, _, h0, h1⟩ := trod_struct2 ho h
  rw [t0, o0, cs] at h0
  rw [t1, o1, cs] at h1
  obtain ⟨a, e0, -, w0⟩ := DataW.trod_string (cs := [u]) hs (by simpa using h0)
  obtain ⟨b, e1, -, w1⟩ := DataW.trod_string (cs := [v]) hs (by simpa using h1)
  simp only [List.cons.injEq, and_true] at e0 e1
  exact ⟨a, b, e0, e1, w0, w1⟩
/-- an object and a string -/
theorem trod_goal {g o s : TypeId} {f0 f1 k0 k1 : Field} {fuel : Nat} {u v z : Value} {x : DataW H × List MemPlace} (hg : P.underlying g = some (.struct #[k0, k1])) (ho : P.underlying o = some (.struct #[f0, f1])) (t0 : f0.type = s) (t1 : f1.type = s) (o0 : f0.offset = 0) (o1 : f1.offset = 1) (cs : P.cellsOf s = 1) (hs : P.underlying s = some .string)
    (co : P.cellsOf o = 2) (q0 : k0.type = o) (q1 : k1.type = s) (r0 : k0.offset = 0) (r1 : k1.offset = 2)
    (h : DataW.trod enc P w base spare held fuel g [u, v, z] = some x) : ∃ a b c : ByteArray, u = .string a ∧ v = .string b ∧ z = .string c ∧ a.size ≤ maxLen ∧ b.size ≤ maxLen ∧ c.size ≤ maxLen := by
  obtain ⟨y0, y1, n, _, _, h0, h1⟩ := trod_struct2 hg h
  rw [q0, r0, co] at h0
  rw [q1, r1, cs] at h1
  obtain ⟨a, b, e0, e1, w0, w1⟩ := trod_obj (u := u) (v := v) ho t0 t1 o0 o1 cs hs (by simpa using h0)
  obtain ⟨c, e2, -, w2⟩ := DataW.trod_string (cs := [z]) hs (by simpa using h1)
  simp only [List.cons.injEq, and_true] at e2
  exact ⟨a, b, c, e0, e1, e2, w0, w1, w2⟩
/-- what the types of tuples are, in a program -/
structure TupTypes (P : Program) (t g u o s : TypeId) (m0 m1 k0 k1 l0 l1 f0 f1 : Field) : Prop where
  ht : P.underlying t = some (.struct #[m0, m1])
  hg : P.underlying g = some (.struct #[k0, k1])
  hu : P.underlying u = some (.struct #[l0, l1])
  ho : P.underlying o = some (.struct #[f0, f1])
  hs : P.underlying s = some .string
  ct : P.cellsOf t = 6
  cg : P.cellsOf g = 3
  cu : P.cellsOf u = 3
  co : P.cellsOf o = 2
  cs : P.cellsOf s = 1
  tm : m0.type = g ∧ m1.type = u ∧ m0.offset = 0 ∧ m1.offset = 3
  tk : k0.type = o ∧ k1.type = s ∧ k0.offset = 0 ∧ k1.offset = 2
  tl : l0.type = o ∧ l1.type = s ∧ l0.offset = 0 ∧ l1.offset = 2
  tf : f0.type = s ∧ f1.type = s ∧ f0.offset = 0 ∧ f1.offset = 1
section
variable {t g u o s : TypeId} {m0 m1 k0 k1 l0 l1 f0 f1 : Field}
theorem TupTypes.open_ (T : TupTypes P t g u o s m0 m1 k0 k1 l0 l1 f0 f1) {fuel : Nat} {v0 v1 v2 v3 v4 v5 : Value} {x : DataW H × List MemPlace} (h : DataW.trod enc P w base spare held fuel t [v0, v1, v2, v3, v4, v5] = some x) :
    ∃ y : Tup, v0 = .string y.a ∧ v1 = .string y.b ∧ v2 = .string y.c ∧ v3 = .string y.d ∧ v4 = .string y.e ∧ v5 = .string y.f ∧ Fits y := by
  obtain ⟨y0, y1, n, _, _, h0, h1⟩ := trod_struct2 T.ht h
  rw [T.tm.1, T.tm.2.2.1, T.cg] at h0
  rw [T.tm.2.1, T.tm.2.2.2, T.cu] at h1
  obtain ⟨a, b, c, e0, e1, e2, w0, w1, w2⟩ := trod_goal (u := v0) (v := v1) (z := v2) T.hg T.ho T.tf.1 T.tf.2.1 T.tf.2.2.1 T.tf.2.2.2 T.cs T.hs T.co T.tk.1 T.tk.2.1 T.tk.2.2.1 T.tk.2.2.2 (by simpa using h0)
  obtain ⟨d, e, f, e3, e4, e5, w3, w4, w5⟩ := trod_goal (u := v3) (v := v4) (z := v5) T.hu T.ho T.tf.1 T.tf.2.1 T.tf.2.2.1 T.tf.2.2.2 T.cs T.hs T.co T.tl.1 T.tl.2.1 T.tl.2.2.1 T.tl.2.2.2 (by simpa using h1)
  exact ⟨⟨a, b, c, d, e, f⟩, e0, e1, e2, e3, e4, e5, w0, w1, w2, w3, w4, w5⟩
/-- a tuple by value -/
theorem TupTypes.value (T : TupTypes P t g u o s m0 m1 k0 k1 l0 l1 f0 f1) {r : Reach} {b0 : Nat} {v : Value} {d : DataW H} {p : List MemPlace} (hv : Value.okWide P w r b0 t v) (h : DataW.Trod enc P w base spare held t v d p) :
    ∃ y : Tup, v = .agg #[.string y.a, .string y.b, .string y.c, .string y.d, .string y.e, .string y.f] ∧ Fits y := by
  obtain ⟨cs, rfl, hsz⟩ := okWide_struct T.ht hv
  obtain ⟨l⟩ := cs
  match l, hsz.trans T.ct with
  | [v0, v1, v2, v3, v4, v5], _ =>
    obtain ⟨fuel, hf⟩ := h
    obtain ⟨y, rfl, rfl, rfl, rfl, rfl, rfl, hy⟩ := T.open_ (v0 := v0) (v1 := v1) (v2 := v2) (v3 := v3) (v4 := v4) (v5 := v5) (by simpa [Value.cells] using hf)
    exact ⟨y, rfl, hy⟩
/-- the string in a cell -/
def cellS (w : World) (a : Addr) : ByteArray :=
  match w.cell? a with
  | some (.string s) => s
  | _ => ⟨#[]⟩
theorem cellS_of {w : World} {a : Addr} {s : ByteArray} (h : w.cell? a = some (.string s)) : cellS w a = s := by unfold cellS; rw [h]
def cellT (w : World) (a : Addr) (i : Nat) : Tup := ⟨cellS w (a.add (i * 6)), cellS w (a.add (i * 6 + 1)), cellS w (a.add (i * 6 + 2)), cellS w (a.add (i * 6 + 3)), cellS w (a.add (i * 6 + 4)), cellS w (a.add (i * 6 + 5))⟩
/-- a slice of tuples -/
theorem TupTypes.slice (T : TupTypes P t g u o s m0 m1 k0 k1 l0 l1 f0 f1) {z : TypeId} {r : Reach} {b0 : Nat} {v : Value} {d : DataW H} {p : List MemPlace} (hz : P.underlying z = some (.slice t)) (hv : Value.okWide P w r b0 z v) (h : DataW.Trod enc P w base spare held z v d p) :
    ∃ A l c, v = .slice A l.length c ∧ l.length ≤ c ∧ c ≤ maxLen ∧ Go.Proofs.YtgfgfggoofjeeaaGreat.Row w A l ∧ ∀ y ∈ l, Fits y := by
  obtain ⟨a0, n0, c0, rfl⟩ := okWide_slice hz hv
  obtain ⟨fuel, hf⟩ := h
  rcases open_slice hz hf with ⟨hc, -⟩ | ⟨a, len, cap, m, k, D, Pl, hc, hbase, hle, hcap, hm, -, hel⟩
  · have hc' : Value.slice a0 n0 c0 = .slice none 0 0 := by simpa [Value.cells] using hc
    rw [hc']
    exact ⟨none, [], 0, rfl, Nat.le_refl _, Nat.zero_le _, Row.nil _ _, fun y hy => absurd hy List.not_mem_nil⟩
  · have hc' : Value.slice a0 n0 c0 = .slice (some a) len cap := by simpa [Value.cells] using hc
    rw [hc']
    have hml : len ≤ m := by rw [hm]; split <;> omega
    have key : ∀ i, i < len → ∃ y : Tup, w.cell? (a.add (i * 6)) = some (.string y.a) ∧ w.cell? (a.add (i * 6 + 1)) = some (.string y.b) ∧ w.cell? (a.add (i * 6 + 2)) = some (.string y.c) ∧ w.cell? (a.add (i * 6 + 3)) = some (.string y.d) ∧ w.cell? (a.add (i * 6 + 4)) = some (.string y.e) ∧ w.cell? (a.add (i * 6 + 5)) = some (.string y.f) ∧ Fits y := fun i hi => by
      obtain ⟨cs', hcells, htr⟩ := hel i (by omega)
      rw [T.ct] at hcells
      obtain ⟨_, hlen, hcell⟩ := World.cells?_some hcells
      match cs', hlen with
      | [v0, v1, v2, v3, v4, v5], _ =>
        obtain ⟨y, rfl, rfl, rfl, rfl, rfl, rfl, hy⟩ := T.open_ htr
        have q0 := hcell 0 (by decide); have q1 := hcell 1 (by decide); have q2 := hcell 2 (by decide); have q3 := hcell 3 (by decide); have q4 := hcell 4 (by decide); have q5 := hcell 5 (by decide)
        rw [Addr.add_add] at q0 q1 q2 q3 q4 q5
        exact ⟨y, by simpa using q0, by simpa using q1, by simpa using q2, by simpa using q3, by simpa using q4, by simpa using q5, hy⟩
    have kt : ∀ i, i < len → ∀ y : Tup, (w.cell? (a.add (i * 6)) = some (.string y.a) ∧ w.cell? (a.add (i * 6 + 1)) = some (.string y.b) ∧ w.cell? (a.add (i * 6 + 2)) = some (.string y.c) ∧ w.cell? (a.add (i * 6 + 3)) = some (.string y.d) ∧ w.cell? (a.add (i * 6 + 4)) = some (.string y.e) ∧ w.cell? (a.add (i * 6 + 5)) = some (.string y.f) ∧ Fits y) → cellT w a i = y := fun i _ y ⟨q0, q1, q2, q3, q4, q5, _⟩ => by
      unfold cellT; rw [cellS_of q0, cellS_of q1, cellS_of q2, cellS_of q3, cellS_of q4, cellS_of q5]
    refine ⟨some a, (List.range len).map (cellT w a), cap, by simp, by simpa using hle, hcap, fun hne => ?_, fun y hy => ?_⟩
    · have hlen : 0 < len := by
        rcases Nat.eq_zero_or_pos len with h | h
        · subst h; exact absurd rfl hne
        · exact h
      obtain ⟨y0, hc0, -⟩ := key 0 hlen
      have ha := addr_none (by simpa using hc0)
      have hlt := World.block_lt_of_cell? _ _ hc0
      rw [ha] at hlt
      refine ⟨a.block, a.off, by rw [← ha], by simpa [Addr.add] using hlt, fun i hi c v hv => ?_⟩
      have hi' : i < len := by simpa using hi
      obtain ⟨y, hy⟩ := key i hi'
      have e := kt i hi' y hy
      simp only [List.getElem_map, List.getElem_range, e] at hv
      obtain ⟨q0, q1, q2, q3, q4, q5, _⟩ := hy
      rw [ha, add_plain] at q0 q1 q2 q3 q4 q5
      have hc := enc_lt hv
      simp only [Go.Proofs.YtgfgfggoofjeeaaGreat.enc] at hv
      match c, hc with
      | 0, _ => simp at hv; subst hv; rw [← Nat.add_assoc] at *; exact q0
      | 1, _ => simp at hv; subst hv; rw [← Nat.add_assoc] at *; exact q1
      | 2, _ => simp at hv; subst hv; rw [← Nat.add_assoc] at *; exact q2
      | 3, _ => simp at hv; subst hv; rw [← Nat.add_assoc] at *; exact q3
      | 4, _ => simp at hv; subst hv; rw [← Nat.add_assoc] at *; exact q4
      | 5, _ => simp at hv; subst hv; rw [← Nat.add_assoc] at *; exact q5
    · obtain ⟨i, hi, rfl⟩ := List.mem_map.1 hy
      have hi' : i < len := List.mem_range.1 hi
      obtain ⟨y, hy⟩ := key i hi'
      rw [kt i hi' y hy]
      exact hy.2.2.2.2.2.2
end
theorem tupTypes : ∃ m0 m1 k0 k1 l0 l1 f0 f1, TupTypes Tryz.prog 48 45 46 43 9 m0 m1 k0 k1 l0 l1 f0 f1 :=
  ⟨_, _, _, _, _, _, _, _, Tryz.underlying48, Tryz.underlying45, Tryz.underlying46, Tryz.underlying43, Tryz.underlying9, by kernel_rfl, by kernel_rfl, by kernel_rfl, by kernel_rfl, by kernel_rfl, ⟨rfl, rfl, rfl, rfl⟩, ⟨rfl, rfl, rfl, rfl⟩, ⟨rfl, rfl, rfl, rfl⟩, ⟨rfl, rfl, rfl, rfl⟩⟩

end Go.Proofs.YtgfgfggoofjeeaaGreat
namespace Go.Proofs.YtgfgfggoofjeeaaGreat.DT
open Go.RowKit Go.Sort

theorem pick_sz {u : Bool} {s : ByteArray} {n : Nat} (h : s.size ≤ n) : (pick u s).size ≤ n := by
  cases u
  · exact Nat.zero_le _
  · exact h
theorem okN_pick {u : Bool} {s : ByteArray} (h : nb s = true) : okN (pick u s) = true := by
  cases u
  · exact okN_e emp
  · exact okN_n h
theorem ofB_fit {t : Tup} (h : Fits t) (u0 u1 u2 u3 : Bool) : FitF (ofB t u0 u1 u2 u3) := ⟨pick_sz h.1, pick_sz h.2.1, pick_sz h.2.2.1, pick_sz h.2.2.2.1, pick_sz h.2.2.2.2.1, pick_sz h.2.2.2.2.2⟩
theorem ofB_chk {t : Tup} (h : okT t = true) (u0 u1 u2 u3 : Bool) : fchk (ofB t u0 u1 u2 u3) = 0 := by
  unfold okT at h
  simp only [Bool.and_eq_true] at h
  obtain ⟨⟨⟨h1, h2⟩, h3⟩, h4⟩ := h
  cases u3
  · exact fchk_ok (by show (true && !noS _) = false; unfold noS ofB pick; simp) (okN_pick h1) (okN_pick h2) (okN_pick h3) rfl
  · exact fchk_end (u := true) rfl (okN_pick h1) (okN_pick h2) (okN_pick h3) h4 rfl
theorem fofF_fit (p q n : Nat) : FitF (Go.Proofs.YtgfgfggoofjeeaaGreat.ofF p q n) := ofB_fit (ok_fits (one_ok p q)) _ _ _ _
theorem fofF_chk (p q n : Nat) : fchk (Go.Proofs.YtgfgfggoofjeeaaGreat.ofF p q n) = 0 := ofB_chk (one_ok p q) _ _ _ _
end Go.Proofs.YtgfgfggoofjeeaaGreat.DT
namespace Go.Proofs.YtgfgfggoofjeeaaGreat
open Go.ChangeShapes Go.WideShapes Go.ChangeAt Go.RowKit Go.Deep Go.Sort
variable {H : Type} {enc : TypeId × Value → H} {P : Program} {w : World} {base : Nat} {spare : Nat → Bool} {held : Bool}

/-- two bytes of an array, and one more -/
theorem open_F {t e b : TypeId} {f0 f1 : Field} {r : Reach} {b0 : Nat} {v : Value} {d : DataW H} {p : List MemPlace} (ht : P.underlying t = some (.struct #[f0, f1])) (t0 : f0.type = e) (t1 : f1.type = b) (o0 : f0.offset = 0) (o1 : f1.offset = 2) (cT : P.cellsOf t = 3)
    (he : P.underlying e = some (.array 2 b)) (cE : P.cellsOf e = 2) (cB : P.cellsOf b = 1) (hb : P.underlying b = some (.int .u8))
    (hv : Value.okWide P w r b0 t v) (h : DataW.Trod enc P w base spare held t v d p) :
    ∃ x y n : Nat, v = .agg #[.int .u8 x, .int .u8 y, .int .u8 n] ∧ x < 256 ∧ y < 256 ∧ n < 256 := by
  obtain ⟨cs, rfl, hsz⟩ := okWide_struct ht hv
  obtain ⟨l⟩ := cs
  match l, hsz.trans cT with
  | [c0, c1, c2], _ =>
    obtain ⟨fuel, hf⟩ := h
    obtain ⟨y0, y1, n, _, _, h0, h1⟩ := trod_struct2 ht hf
    rw [t0, o0, cE] at h0
    rw [t1, o1, cB] at h1
    obtain ⟨x, y, rfl, rfl, hx, hy⟩ := trod_two he cB hb (u := c0) (v := c1) (by simpa [Value.cells] using h0)
    obtain ⟨m, e2, -, w2⟩ := DataW.trod_int (cs := [c2]) hb (by simpa [Value.cells] using h1)
    simp only [List.cons.injEq, and_true] at e2
    obtain ⟨k2, l2⟩ := u8_nat w2
    exact ⟨x, y, m.toNat, by rw [e2, ← k2], hx, hy, l2⟩
/-- a filter by value -/
theorem TupTypes.filter {t g u o s : TypeId} {m0 m1 k0 k1 l0 l1 f0 f1 : Field} (T : TupTypes P t g u o s m0 m1 k0 k1 l0 l1 f0 f1) {z bo : TypeId} {g0 g1 g2 g3 g4 : Field} {r : Reach} {b0 : Nat} {v : Value} {d : DataW H} {p : List MemPlace} (hz : P.underlying z = some (.struct #[g0, g1, g2, g3, g4]))
    (t0 : g0.type = s ∧ g0.offset = 0) (t1 : g1.type = s ∧ g1.offset = 1) (t2 : g2.type = s ∧ g2.offset = 2) (t3 : g3.type = u ∧ g3.offset = 3) (t4 : g4.type = bo ∧ g4.offset = 6) (cz : P.cellsOf z = 7) (cb : P.cellsOf bo = 1) (hb : P.underlying bo = some .bool)
    (hv : Value.okWide P w r b0 z v) (h : DataW.Trod enc P w base spare held z v d p) : ∃ f : Fil, v = valF f ∧ FitF f := by
  obtain ⟨cs, rfl, hsz⟩ := okWide_struct hz hv
  obtain ⟨l⟩ := cs
  match l, hsz.trans cz with
  | [v0, v1, v2, v3, v4, v5, v6], _ =>
    obtain ⟨fuel, hf⟩ := h
    obtain ⟨xs, n, _, _, _, hlen, hk⟩ := DataW.trod_struct hz hf
    match xs, hlen with
    | [y0, y1, y2, y3, y4], _ =>
      have q0 := hk 0 g0 rfl
      have q1 := hk 1 g1 rfl
      have q2 := hk 2 g2 rfl
      have q3 := hk 3 g3 rfl
      have q4 := hk 4 g4 rfl
      rw [t0.1, t0.2, T.cs] at q0
      rw [t1.1, t1.2, T.cs] at q1
      rw [t2.1, t2.2, T.cs] at q2
      rw [t3.1, t3.2, T.cu] at q3
      rw [t4.1, t4.2, cb] at q4
      obtain ⟨a, e0, -, w0⟩ := DataW.trod_string (cs := [v0]) (x := y0) T.hs (by simpa [Value.cells] using q0)
      obtain ⟨b, e1, -, w1⟩ := DataW.trod_string (cs := [v1]) (x := y1) T.hs (by simpa [Value.cells] using q1)
      obtain ⟨c, e2, -, w2⟩ := DataW.trod_string (cs := [v2]) (x := y2) T.hs (by simpa [Value.cells] using q2)
      obtain ⟨d', e', f', e3, e4, e5, w3, w4, w5⟩ := trod_goal (u := v3) (v := v4) (z := v5) (x := y3) T.hu T.ho T.tf.1 T.tf.2.1 T.tf.2.2.1 T.tf.2.2.2 T.cs T.hs T.co T.tl.1 T.tl.2.1 T.tl.2.2.1 T.tl.2.2.2 (by simpa [Value.cells] using q3)
      obtain ⟨bb, e6, -⟩ := DataW.trod_bool (cs := [v6]) (x := y4) hb (by simpa [Value.cells] using q4)
      simp only [List.cons.injEq, and_true] at e0 e1 e2 e6
      exact ⟨⟨a, b, c, d', e', f', bb⟩, by rw [e0, e1, e2, e3, e4, e5, e6]; rfl, w0, w1, w2, w3, w4, w5⟩
theorem filTypes : ∃ g0 g1 g2 g3 g4, Tryz.prog.underlying 51 = some (.struct #[g0, g1, g2, g3, g4]) ∧ (g0.type = 9 ∧ g0.offset = 0) ∧ (g1.type = 9 ∧ g1.offset = 1) ∧ (g2.type = 9 ∧ g2.offset = 2) ∧ (g3.type = 46 ∧ g3.offset = 3) ∧ (g4.type = 4 ∧ g4.offset = 6) :=
  ⟨_, _, _, _, _, Tryz.underlying51, ⟨rfl, rfl⟩, ⟨rfl, rfl⟩, ⟨rfl, rfl⟩, ⟨rfl, rfl⟩, ⟨rfl, rfl⟩⟩
end Go.Proofs.YtgfgfggoofjeeaaGreat
namespace Go.Proofs.YtgfgfggoofjeeaaGreat.DT
open Go.RowKit Go.Deep

theorem of_s {w : World} (A : Option Addr) (l : List Tup) (c : Nat) (hR : Row w A l) (hv : ∀ t ∈ l, okT t = true) (ha : Asc cmpT l) (hn : l.length ≤ 50) :
    Calls Tryz.prog 6 #[.slice A l.length c] w (GivesS w (l, 0)) := by
  have q := of_l A l c hR (fun t ht => ok_fits (hv t ht)) (Nat.le_trans hn (by decide))
  have e : ofF [] l = (srt cmpT l, 0) := ofF_srt _ _ (by simp; omega) hv
  rw [e, srt_self tot ha] at q; exact q
theorem Blk.two {W : World} {g : Nat} {t : TypeId} {x y : Value} (h : Blk W g t #[x, y]) : W.cell? ⟨g, 0, none⟩ = some x ∧ W.cell? ⟨g, 1, none⟩ = some y := ⟨(h.cell 0).trans rfl, (h.cell 1).trans rfl⟩
theorem Blk.tup {W : World} {g : Nat} {ty : TypeId} {t : Tup} (h : Blk W g ty #[.string t.a, .string t.b, .string t.c, .string t.d, .string t.e, .string t.f]) : W.cell? ⟨g, 0, none⟩ = some (.string t.a) ∧ W.cell? ⟨g, 1, none⟩ = some (.string t.b) ∧ W.cell? ⟨g, 2, none⟩ = some (.string t.c) ∧ W.cell? ⟨g, 3, none⟩ = some (.string t.d) ∧ W.cell? ⟨g, 4, none⟩ = some (.string t.e) ∧ W.cell? ⟨g, 5, none⟩ = some (.string t.f) :=
  ⟨(h.cell 0).trans rfl, (h.cell 1).trans rfl, (h.cell 2).trans rfl, (h.cell 3).trans rfl, (h.cell 4).trans rfl, (h.cell 5).trans rfl⟩
theorem Blk.fil {W : World} {g : Nat} {ty : TypeId} {t : Fil} (h : Blk W g ty #[.string t.a, .string t.b, .string t.c, .string t.d, .string t.e, .string t.f, .bool t.x]) : W.cell? ⟨g, 0, none⟩ = some (.string t.a) ∧ W.cell? ⟨g, 1, none⟩ = some (.string t.b) ∧ W.cell? ⟨g, 2, none⟩ = some (.string t.c) ∧ W.cell? ⟨g, 3, none⟩ = some (.string t.d) ∧ W.cell? ⟨g, 4, none⟩ = some (.string t.e) ∧ W.cell? ⟨g, 5, none⟩ = some (.string t.f) ∧ W.cell? ⟨g, 6, none⟩ = some (.bool t.x) :=
  ⟨(h.cell 0).trans rfl, (h.cell 1).trans rfl, (h.cell 2).trans rfl, (h.cell 3).trans rfl, (h.cell 4).trans rfl, (h.cell 5).trans rfl, (h.cell 6).trans rfl⟩
theorem one_b (p q : Nat) (w : World) (hp : p < 256) (hq : q < 256) (t : Tup) (h : one p q = t) :
    Calls Tryz.prog 7 #[.agg #[.int .u8 p, .int .u8 q]] w fun e w' => e = .returned (.agg #[.string t.a, .string t.b, .string t.c, .string t.d, .string t.e, .string t.f]) ∧ Below w.heap.size w w' := by
  subst h; exact (one_any p q w hp hq).mono fun _ _ h => ⟨h.1, h.2.toBelow⟩
theorem fof_b (p q n : Nat) (w : World) (hp : p < 256) (hq : q < 256) (f : Fil) (h : Go.Proofs.YtgfgfggoofjeeaaGreat.ofF p q n = f) :
    Calls Tryz.prog 8 #[.agg #[.int .u8 p, .int .u8 q, .int .u8 n]] w fun e w' => e = .returned (.agg #[.string f.a, .string f.b, .string f.c, .string f.d, .string f.e, .string f.f, .bool f.x]) ∧ Below w.heap.size w w' := by
  subst h; exact (ofF_any p q n w hp hq).mono fun _ _ h => ⟨h.1, h.2.toBelow⟩
/-- the law's set, tuple and filter -/
structure VS (W : World) (b g g' : Nat) (ov : Value) (T : Tr) (L : List Tup) (D : Option Addr) (t : Tup) (f : Fil) : Prop where
  s : Blk W b 38 #[ov, .pointer T.ad]
  c : Blk W g 48 #[.string t.a, .string t.b, .string t.c, .string t.d, .string t.e, .string t.f]
  e : Blk W g' 51 #[.string f.a, .string f.b, .string f.c, .string f.d, .string f.e, .string f.f, .bool f.x]
  m : SetL W ov T L
  r : Row W D L
theorem VS.below {W x : World} {b g g' : Nat} {ov : Value} {T : Tr} {L : List Tup} {D : Option Addr} {t : Tup} {f : Fil} (h : VS W b g g' ov T L D t f) (hb : Below W.heap.size W x) : VS x b g g' ov T L D t f :=
  ⟨h.s.below hb, h.c.below hb, h.e.below hb, h.m.below hb, h.r.below hb⟩
attribute [local go_sem ↓] storeVar_tup storeVar_fil
attribute [local go_sem] bt_new bt_new1 bt_newo bf_new bf_new1 bf_newo
attribute [local go_sem] run_tup run_fil Big.old Big.put Big.drew
set_option maxRecDepth 20000 in
set_option maxHeartbeats 8000000 in
theorem views_walk (A : Option Addr) (x : List (Nat × Nat)) (c : Nat) (B : Option Addr) (y : List (Nat × Nat × Nat)) (c2 : Nat) (f0 f1 f2 n0 n1 : Nat) (w : World) (hR : RowN w A x) (hx : x.length ≤ maxLen) (hM : RowM w B y) (hy : y.length ≤ maxLen)
    (hf0 : f0 < 256) (hf1 : f1 < 256) (hn0 : n0 < 256) (hn1 : n1 < 256) :
    Calls Tryz.prog 3 #[.agg #[.slice A x.length c, .slice B y.length c2], .agg #[.int .u8 f0, .int .u8 f1, .int .u8 f2], .agg #[.int .u8 n0, .int .u8 n1]] w fun e w' => e = .returned (.bool true) ∧ Below w.heap.size w w' := by
  obtain ⟨A1, hA1⟩ : ∃ A1, (((w.alloc (.cells #[.slice A x.length c, .slice B y.length c2] 27 (0, 0))).alloc (.cells #[.int .u8 f0, .int .u8 f1, .int .u8 f2] 30 (0, 0))).alloc (.cells #[.int .u8 n0, .int .u8 n1] 28 (0, 0))) = A1 := ⟨_, rfl⟩
  have hA : Below w.heap.size w A1 := by rw [← hA1]; exact g_alloc (g_alloc (g_alloc g_refl _) _) _
  have hM8 : A1.cell? ⟨w.heap.size + 1, 0, none⟩ = some (.int .u8 f0) ∧ A1.cell? ⟨w.heap.size + 1, 1, none⟩ = some (.int .u8 f1) ∧ A1.cell? ⟨w.heap.size + 1, 2, none⟩ = some (.int .u8 f2) ∧ A1.cell? ⟨w.heap.size + 1 + 1, 0, none⟩ = some (.int .u8 n0) ∧ A1.cell? ⟨w.heap.size + 1 + 1, 1, none⟩ = some (.int .u8 n1) := by
    have m1 := new_at (w.alloc (.cells #[.slice A x.length c, .slice B y.length c2] 27 (0, 0))) (.cells #[.int .u8 f0, .int .u8 f1, .int .u8 f2] 30 (0, 0))
    rw [show (w.alloc (.cells #[.slice A x.length c, .slice B y.length c2] 27 (0, 0))).heap.size = w.heap.size + 1 by simp] at m1
    have m2 := new_old (o := (.cells #[.int .u8 n0, .int .u8 n1] 28 (0, 0))) m1
    have m3 := new_at ((w.alloc (.cells #[.slice A x.length c, .slice B y.length c2] 27 (0, 0))).alloc (.cells #[.int .u8 f0, .int .u8 f1, .int .u8 f2] 30 (0, 0))) (.cells #[.int .u8 n0, .int .u8 n1] 28 (0, 0))
    rw [show ((w.alloc (.cells #[.slice A x.length c, .slice B y.length c2] 27 (0, 0))).alloc (.cells #[.int .u8 f0, .int .u8 f1, .int .u8 f2] 30 (0, 0))).heap.size = w.heap.size + 1 + 1 by simp] at m3
    rw [hA1] at m2 m3
    have c2 := fun j => box_cell m2 j
    have c3 := fun j => box_cell m3 j
    exact ⟨(c2 0).trans rfl, (c2 1).trans rfl, (c2 2).trans rfl, (c3 0).trans rfl, (c3 1).trans rfl⟩
  have HS := hid (sof_any A x c B y c2 A1 (hR.below hA) hx (hM.below hA) hy)
  have HA := hid hA
  have HC := hid hM8
  obtain ⟨t, ht⟩ : ∃ t, one n0 n1 = t := ⟨_, rfl⟩
  obtain ⟨f, hf⟩ : ∃ f, Go.Proofs.YtgfgfggoofjeeaaGreat.ofF f0 f1 f2 = f := ⟨_, rfl⟩
  have HT : Hid (okT t = true) := hid (by rw [← ht]; exact one_ok _ _)
  have HF : Hid (FitF f ∧ fchk f = 0) := hid (by rw [← hf]; exact ⟨fofF_fit _ _ _, fofF_chk _ _ _⟩)
  have HC1 := hid (fun W => one_b n0 n1 W hn0 hn1 t ht)
  have HC2 := hid (fun W => fof_b f0 f1 f2 W hf0 hf1 f hf)
  clear hA hM8 ht hf hR hx hM hy
  subst hA1
  go_enter Tryz.func3, Tryz.ntmps3
  go_wp2_with fail
  generalize hq : w.heap.size = q at *
  have HQ := hid hq
  generalize hA2 : (((w.alloc (.cells #[.slice A x.length c, .slice B y.length c2] 27 (0, 0))).alloc (.cells #[.int .u8 f0, .int .u8 f1, .int .u8 f2] 30 (0, 0))).alloc (.cells #[.int .u8 n0, .int .u8 n1] 28 (0, 0))) = A1 at *
  clear hq
  refine HS.out.mono ?_
  rintro _ w1 ⟨⟨D, L, cD, rfl, hRD, hok, hasc, hlen⟩, hb1⟩
  have HRD := hid hRD
  have HOK := hid hok
  have HASC := hid hasc
  have HLEN := hid hlen
  have HB1 := hid hb1
  clear hRD hok hasc hlen hb1 HS hA2
  go_wp2_with fail
  refine (of_s D L cD HRD.out HOK.out HASC.out HLEN.out).mono ?_
  rintro _ w2 ⟨ov, T, rfl, hL2, hb2⟩
  have HL2 := hid hL2
  have hst := store_ov hL2.ovs
  have hB2 := g_trans HB1.out hb2
  have HB2 := hid hB2
  have HC2' := hid (kpn5 hB2 HC.out)
  have HRD2 := hid (HRD.out.below hb2)
  clear hL2 hb2 hB2 HC HRD HB1
  obtain ⟨c0, c1, c2, c3, c4⟩ := HC2'.out
  go_wp2_with fail
  clear c0 c1 c2 c3 c4 hst
  obtain ⟨w3, hw3⟩ : ∃ w3, w2.alloc (.cells #[ov, .pointer T.ad] 38 (0, 0)) = w3 := ⟨_, rfl⟩
  have hs3 : w3.heap[w2.heap.size]? = some (.cells #[ov, .pointer T.ad] 38 (0, 0)) := by rw [← hw3]; exact new_at _ _
  have hb3 : Below w2.heap.size w2 w3 := by rw [← hw3]; exact g_alloc g_refl _
  rw [hw3]
  generalize hb : w2.heap.size = b3 at *
  have HBS := hid hb
  clear hb hw3
  have HL3 := hid (HL2.out.below (by rw [HBS.out]; exact hb3))
  have HS3 := hid hs3
  have h5 := kpn5 (show Below w2.heap.size w2 w3 by rw [HBS.out]; exact hb3) HC2'.out
  have HB3 := hid (g_trans HB2.out (show Below w2.heap.size w2 w3 by rw [HBS.out]; exact hb3))
  have HRD3 := hid (HRD2.out.below (show Below w2.heap.size w2 w3 by rw [HBS.out]; exact hb3))
  have HQ3 : Hid (q + 1 + 1 < w3.heap.size) := hid (World.block_lt_of_cell? _ _ h5.2.2.2.1)
  clear hb3 hs3 HB2 HL2 HC2' HRD2 HBS
  go_cut [10, 11] (fun s s' wx => ∃ g g', s = .pointer (some ⟨g, 0, none⟩) ∧ s' = .pointer (some ⟨g', 0, none⟩) ∧ ¬ g = g' ∧ w3.heap.size ≤ g ∧ w3.heap.size ≤ g' ∧ Blk wx g 48 #[.string t.a, .string t.b, .string t.c, .string t.d, .string t.e, .string t.f] ∧ Blk wx g' 51 #[.string f.a, .string f.b, .string f.c, .string f.d, .string f.e, .string f.f, .bool f.x] ∧ Below w3.heap.size w3 wx)
  case first => as_aux_lemma =>
    --[r5
    have hS := kpn5 (g_drew (g_refl (a := w3))) h5
    have hq3 : q + 1 + 1 < w3.heap.size := HQ3.out
    clear h5 HL3 HS3 HB3 HRD3 HOK HASC HLEN HA HQ HT HF HQ3
    go_region_held3 (fun w' => w'.cell? ⟨q + 1, 0, none⟩ = some (.int .u8 f0) ∧ w'.cell? ⟨q + 1, 1, none⟩ = some (.int .u8 f1) ∧ w'.cell? ⟨q + 1, 2, none⟩ = some (.int .u8 f2) ∧ w'.cell? ⟨q + 1 + 1, 0, none⟩ = some (.int .u8 n0) ∧ w'.cell? ⟨q + 1 + 1, 1, none⟩ = some (.int .u8 n1))
      (first | with_reducible assumption | (with_reducible refine kpp5 ?_ ?_ ?_ ?_ ?_ (by with_reducible assumption) <;> omega) | with_reducible exact kpn5 (g_alloc g_refl _) (by with_reducible assumption) | with_reducible exact kpn5 (by with_reducible assumption) (by with_reducible assumption))
      (first
      | (go_at_call 7; (with_reducible refine Calls.mono (HC1.out _) ?_); rintro _ x1 ⟨rfl, hc1⟩
         (try with_reducible (first | have hT := Big.below (bt_new1 _ _) hc1 | have hT := Big.below (Big.drew (bt_new1 _ _)) hc1 | have hT := Big.below (bt_new _) hc1 | have hT := Big.below (Big.drew (bt_new _)) hc1 | have hT := Big.below (Big.old (bt_new _) _) hc1 | have hT := Big.below (Big.drew (Big.old (bt_new _) _)) hc1))
         (try with_reducible (first | have hF := Big.below (bf_new1 _ _) hc1 | have hF := Big.below (Big.drew (bf_new1 _ _)) hc1 | have hF := Big.below (bf_new _) hc1 | have hF := Big.below (Big.drew (bf_new _)) hc1 | have hF := Big.below (Big.old (bf_new _) _) hc1 | have hF := Big.below (Big.drew (Big.old (bf_new _) _)) hc1))
         have hz1 := hc1.size; (try simp at hz1); have hz1' : w3.heap.size ≤ x1.heap.size := by omega)
      | (go_at_call 8; (with_reducible refine Calls.mono (HC2.out _) ?_); rintro _ x2 ⟨rfl, hc2⟩
         (try with_reducible (first | have hhT := Big.below hT hc2 | have hhT := Big.below (Big.old hT _) hc2 | have hhT := Big.below (bt_new1 _ _) hc2 | have hhT := Big.below (bt_new _) hc2 | have hhT := Big.below (Big.old (bt_new _) _) hc2))
         (try with_reducible (first | have hhF := Big.below hF hc2 | have hhF := Big.below (Big.old hF _) hc2 | have hhF := Big.below (bf_new1 _ _) hc2 | have hhF := Big.below (bf_new _) hc2 | have hhF := Big.below (Big.old (bf_new _) _) hc2))
         (try have ho1 := fun o => hhT.old o); (try have ho2 := fun o => hhF.old o)
         have hz2 := hc2.size; (try simp at hz2); have hz2' : x1.heap.size ≤ x2.heap.size := by omega))
    all_goals
      go_wp2_with fail
      go_meet
      (try have hl1 := hhT.lt); (try have hl2 := hhF.lt); (try have hl3 := hT.lt); (try have hl4 := hF.lt)
      first
        | with_reducible refine ends_a (n1 := 6) (n2 := 7) ?_ ?_ ?_ rfl rfl ?_ ?_ ?_
          · repeat (first | with_reducible exact g_refl | with_reducible refine g_alloc ?_ _ | with_reducible refine g_drew ?_ | with_reducible refine g_trans ?_ hc2 | with_reducible refine g_trans ?_ hc1)
          · repeat (first | (with_reducible assumption) | with_reducible exact bt_new _ | with_reducible exact bt_new1 _ _ | with_reducible exact bt_newo _ _ | with_reducible refine Big.old ?_ _)
          · repeat (first | (with_reducible assumption) | with_reducible exact bf_new _ | with_reducible exact bf_new1 _ _ | with_reducible exact bf_newo _ _ | with_reducible refine Big.old ?_ _)
          · omega
          · omega
          · omega
        | with_reducible refine ends_b (n1 := 6) ?_ ?_ rfl rfl ?_
          · repeat (first | with_reducible exact g_refl | with_reducible refine g_alloc ?_ _ | with_reducible refine g_drew ?_ | with_reducible refine g_trans ?_ hc2 | with_reducible refine g_trans ?_ hc1)
          · repeat (first | (with_reducible assumption) | with_reducible exact bt_new _ | with_reducible exact bt_new1 _ _ | with_reducible exact bt_newo _ _ | with_reducible refine Big.old ?_ _)
          · omega
    --]r5
  case rest =>
    --[rest
    obtain ⟨g, g', rfl, rfl, hgg, hg, hg', hbg, hbg', hb4⟩ := hcut
    clear HC1 HC2 h5 HQ3
    have hvs : VS wc b3 g g' ov T L D t f := ⟨(hb4.block _ (Array.getElem?_eq_some_iff.1 HS3.out).1).trans HS3.out, hbg, hbg', ⟨HL3.out.below hb4, HOK.out, by have := HLEN.out; omega⟩, HRD3.out.below hb4⟩
    have HVS := hid hvs
    have HB4 := hid (g_trans HB3.out hb4)
    clear hbg hbg' hb4 hgg hg hg' HS3 HL3 HRD3 HB3
    have HTF : Hid (t.a.size ≤ maxLen ∧ t.b.size ≤ maxLen ∧ t.c.size ≤ maxLen ∧ t.d.size ≤ maxLen ∧ t.e.size ≤ maxLen ∧ t.f.size ≤ maxLen) := hid (ok_fits HT.out)
    go_upto_region 6 with fail
    go_cut [12, 13, 14, 15] (fun s12 s13 s14 s15 wx => ∃ A1 A2 A3 A4, s12 = .slice A1 (ofG t.a t.b t.c L).length (ofG t.a t.b t.c L).length ∧ s13 = .slice A2 (ofU t.d t.e t.f L).length (ofU t.d t.e t.f L).length ∧ s14 = .slice A3 (mtc f L).length (mtc f L).length ∧ s15 = .slice A4 (gls L).length (gls L).length ∧ Row wx A1 (ofG t.a t.b t.c L) ∧ Row wx A2 (ofU t.d t.e t.f L) ∧ Row wx A3 (mtc f L) ∧ RowG wx A4 (gls L) ∧ Below wc.heap.size wc wx)
    case first => as_aux_lemma =>
      --[r6
      have hS : wc.drew.cell? ⟨b3, 0, none⟩ = some ov ∧ wc.drew.cell? ⟨b3, 1, none⟩ = some (.pointer T.ad) ∧ wc.drew.cell? ⟨g, 0, none⟩ = some (.string t.a) ∧ wc.drew.cell? ⟨g, 1, none⟩ = some (.string t.b) ∧ wc.drew.cell? ⟨g, 2, none⟩ = some (.string t.c) ∧ wc.drew.cell? ⟨g, 3, none⟩ = some (.string t.d) ∧ wc.drew.cell? ⟨g, 4, none⟩ = some (.string t.e) ∧ wc.drew.cell? ⟨g, 5, none⟩ = some (.string t.f) ∧ wc.drew.cell? ⟨g', 0, none⟩ = some (.string f.a) ∧ wc.drew.cell? ⟨g', 1, none⟩ = some (.string f.b) ∧ wc.drew.cell? ⟨g', 2, none⟩ = some (.string f.c) ∧ wc.drew.cell? ⟨g', 3, none⟩ = some (.string f.d) ∧ wc.drew.cell? ⟨g', 4, none⟩ = some (.string f.e) ∧ wc.drew.cell? ⟨g', 5, none⟩ = some (.string f.f) ∧ wc.drew.cell? ⟨g', 6, none⟩ = some (.bool f.x) := by
        obtain ⟨a0, a1⟩ := hvs.s.two
        obtain ⟨b0, b1, b2, b3, b4, b5⟩ := hvs.c.tup
        obtain ⟨d0, d1, d2, d3, d4, d5, d6⟩ := hvs.e.fil
        exact ⟨a0, a1, b0, b1, b2, b3, b4, b5, d0, d1, d2, d3, d4, d5, d6⟩
      have HM0 : Hid (SetL wc.drew ov T L) := hid (hvs.m.below (g_drew g_refl))
      clear hvs HOK HASC HA HQ HT
      go_region_held3 (fun w' => w'.cell? ⟨b3, 0, none⟩ = some ov ∧ w'.cell? ⟨b3, 1, none⟩ = some (.pointer T.ad) ∧ w'.cell? ⟨g, 0, none⟩ = some (.string t.a) ∧ w'.cell? ⟨g, 1, none⟩ = some (.string t.b) ∧ w'.cell? ⟨g, 2, none⟩ = some (.string t.c) ∧ w'.cell? ⟨g, 3, none⟩ = some (.string t.d) ∧ w'.cell? ⟨g, 4, none⟩ = some (.string t.e) ∧ w'.cell? ⟨g, 5, none⟩ = some (.string t.f) ∧ w'.cell? ⟨g', 0, none⟩ = some (.string f.a) ∧ w'.cell? ⟨g', 1, none⟩ = some (.string f.b) ∧ w'.cell? ⟨g', 2, none⟩ = some (.string f.c) ∧ w'.cell? ⟨g', 3, none⟩ = some (.string f.d) ∧ w'.cell? ⟨g', 4, none⟩ = some (.string f.e) ∧ w'.cell? ⟨g', 5, none⟩ = some (.string f.f) ∧ w'.cell? ⟨g', 6, none⟩ = some (.bool f.x))
        (first | with_reducible assumption | with_reducible exact kpn15 (by with_reducible assumption) (by with_reducible assumption))
        (first
        | (go_at_call 9; (with_reducible refine Calls.mono (goal_n t.a t.b t.c HM0.out HTF.out.1 HTF.out.2.1 HTF.out.2.2.1) ?_); rintro _ x1 ⟨A1, rfl, hR1, hc1, -⟩; have HR1 := hid hR1; have HM1 := hid (HM0.out.below hc1); clear hR1)
        | (go_at_call 10; (with_reducible refine Calls.mono (subject_n t.d t.e t.f HM1.out HTF.out.2.2.2.1 HTF.out.2.2.2.2.1 HTF.out.2.2.2.2.2) ?_); rintro _ x2 ⟨A2, rfl, hR2, hc2, -⟩; have HR2 := hid hR2; have HM2 := hid (HM1.out.below hc2); clear hR2)
        | (go_at_call 11; (with_reducible refine Calls.mono (match_n f HM2.out HF.out.1) ?_); rintro _ x3 ⟨A3, rfl, hR3, hc3, -⟩; have HR3 := hid hR3; have HM3 := hid (HM2.out.below hc3); clear hR3)
        | (go_at_call 12; (with_reducible refine Calls.mono (goals_l HM3.out.toMapL (by have := HLEN.out; omega)) ?_); rintro _ x4 ⟨A4, rfl, hR4, hc4⟩; have HR4 := hid hR4; clear hR4))
      all_goals
        go_wp2_with fail
        go_meet
        exact ⟨A1, A2, A3, A4, rfl, rfl, rfl, rfl, HR1.out.below (g_trans (g_trans hc2 hc3) hc4), HR2.out.below (g_trans hc3 hc4), HR3.out.below hc4, HR4.out, g_trans (g_trans (g_trans (g_trans (g_drew g_refl) hc1) hc2) hc3) hc4⟩
      --]r6
    case rest =>
      --[rest2
      clear hvs
      obtain ⟨A1, A2, A3, A4, rfl, rfl, rfl, rfl, hR1, hR2, hR3, hR4, hb5⟩ := hcut
      have HV5 := hid (HVS.out.below hb5)
      have HB5 := hid (g_trans HB4.out hb5)
      have HR1 := hid hR1
      have HR2 := hid hR2
      have HR3 := hid hR3
      have HR4 := hid hR4
      have HZ5 := hid (HB5.out.size)
      clear hR1 hR2 hR3 hR4 hb5 HVS HB4
      go_wp2_with fail
      refine (rgoals_any D L cD _ HV5.out.r (by have := HLEN.out; omega)).mono ?_
      rintro _ w6 ⟨v6, rfl, hO6, hb6⟩
      obtain ⟨A6, c6, rfl, hR6, -, -⟩ := OwnG.row hO6
      have HV6 := hid (HV5.out.below hb6)
      have HR16 := hid (HR1.out.below hb6)
      have HR26 := hid (HR2.out.below hb6)
      have HR36 := hid (HR3.out.below hb6)
      have HR46 := hid (HR4.out.below hb6)
      have HR66 := hid hR6
      have HB6 := hid (g_trans HB5.out hb6)
      clear hO6 hb6 hR6 HV5 HR1 HR2 HR3 HR4 HB5
      obtain ⟨b0, b1, b2, b3', b4, b5⟩ := HV6.out.c.tup
      go_wp2_with fail
      refine (rgoal_any D L cD t.a t.b t.c _ HV6.out.r (by have := HLEN.out; omega)).mono ?_
      rintro _ w7 ⟨v7, rfl, hO7, hb7⟩
      obtain ⟨A7, c7, rfl, hR7, -, -⟩ := Own.row hO7
      clear b0 b1 b2 b3' b4 b5
      have HV7 := hid (HV6.out.below hb7)
      have HR7 := hid hR7
      have HB7 := hid hb7
      clear hO7 hb7 hR7
      rw [selG_ofG] at HR7 ⊢
      have HLG : Hid ((ofG t.a t.b t.c L).length ≤ 10000) := hid (by have h1 : (ofG t.a t.b t.c L).length ≤ L.length := List.length_filter_le _ _; have := HLEN.out; omega)
      have HLU : Hid ((ofU t.d t.e t.f L).length ≤ 10000) := hid (by have h1 : (ofU t.d t.e t.f L).length ≤ L.length := List.length_filter_le _ _; have := HLEN.out; omega)
      have HLM : Hid ((mtc f L).length ≤ 10000) := hid (by
        have h1 : (mtc f L).length ≤ L.length := by
          unfold mtc; split
          · exact List.length_filter_le _ _
          · exact Nat.zero_le _
        have := HLEN.out; omega)
      have HLS : Hid ((gls L).length ≤ 10000) := hid (by have h1 := gls_len L; have := HLEN.out; omega)
      have EQG := hid (mtc_goal (l := L) (a := t.a) (b := t.b) (c := t.c) (by have h := HT.out; simp only [okT, Bool.and_eq_true] at h ⊢; exact ⟨⟨h.1.1.1, h.1.1.2⟩, h.1.2⟩))
      have EQU := hid (mtc_sub (l := L) (d := t.d) (e := t.e) (f := t.f) HOK.out)
      generalize hlg : ofG t.a t.b t.c L = LG at *
      generalize hlu : ofU t.d t.e t.f L = LU at *
      generalize hlm : mtc f L = LM at *
      generalize hls : gls L = LS at *
      have HEM := hid hlm
      have HEU := hid hlu
      clear hlg hlu hlm hls
      go_wp2_with fail
      refine (rsame_g A1 A7 LG LG LG.length c7 _ 1 (HR16.out.below HB7.out) HR7.out HLG.out (sameI_self _)).mono ?_
      rintro _ w8 ⟨rfl, hb8⟩
      have HV8 := hid (HV7.out.below hb8)
      have HB8 := hid (g_trans HB7.out hb8)
      clear HR7 hb8 HV7 HB7
      obtain ⟨b0, b1, b2, b3', b4, b5⟩ := HV8.out.c.tup
      go_wp2_with fail
      refine (rsubject_any D L cD t.d t.e t.f _ HV8.out.r (by have := HLEN.out; omega)).mono ?_
      rintro _ w9 ⟨v9, rfl, hO9, hb9⟩
      obtain ⟨A9, c9, rfl, hR9, -, -⟩ := Own.row hO9
      clear b0 b1 b2 b3' b4 b5
      rw [selU_ofU, HEU.out] at hR9 ⊢
      have HV9 := hid (HV8.out.below hb9)
      have HR9 := hid hR9
      have HB9 := hid (g_trans HB8.out hb9)
      clear hO9 hb9 hR9 HV8 HB8 HEU
      go_wp2_with fail
      refine (rsame_g A2 A9 LU LU LU.length c9 _ 1 (HR26.out.below HB9.out) HR9.out HLU.out (sameI_self _)).mono ?_
      rintro _ w10 ⟨rfl, hb10⟩
      have HV10 := hid (HV9.out.below hb10)
      have HB10 := hid (g_trans HB9.out hb10)
      clear HR9 hb10 HV9 HB9
      obtain ⟨b0, b1, b2, b3', b4, b5, b6⟩ := HV10.out.e.fil
      go_wp2_with fail
      refine (rmatch_any f D L cD _ HV10.out.r (by have := HLEN.out; omega) HF.out.1).mono ?_
      rintro _ w11 ⟨v11, rfl, hO11, hb11⟩
      obtain ⟨A11, c11, rfl, hR11, -, -⟩ := Own.row hO11
      clear b0 b1 b2 b3' b4 b5 b6
      rw [HEM.out] at hR11 ⊢
      have HV11 := hid (HV10.out.below hb11)
      have HR11 := hid hR11
      have HB11 := hid (g_trans HB10.out hb11)
      clear hO11 hb11 hR11 HV10 HB10 HEM
      go_wp2_with fail
      refine (rsame_g A3 A11 LM LM LM.length c11 _ 1 (HR36.out.below HB11.out) HR11.out HLM.out (sameI_self _)).mono ?_
      rintro _ w12 ⟨rfl, hb12⟩
      have HB12 := hid (g_trans HB11.out hb12)
      have HV12 := hid (HV11.out.below hb12)
      have HR1c := hid (HR16.out.below HB12.out)
      have HR2c := hid (HR26.out.below HB12.out)
      have HR4c := hid (HR46.out.below HB12.out)
      have HR6c := hid (HR66.out.below HB12.out)
      have HBc := hid (g_trans HB6.out HB12.out)
      clear HR11 hb12 HV11 HB11 HR16 HR26 HR36 HR46 HR66 HB6 HB12 HV6
      go_wp2
      go_loopw [17] (fun i wr => ∃ k : Nat, k ≤ LS.length ∧ i = .int .i64 k ∧ Below w12.heap.size w12 wr) (fun i _ => LS.length - (intOf i).toNat)
      case atStart => exact ⟨0, Nat.zero_le _, rfl, g_refl⟩
      case round =>
        obtain ⟨k, hk, rfl, hw⟩ := hrel
        by_cases hlt : k < LS.length
        · have i1 : (k : Int) < (LS.length : Int) := by omega
          have i2 : (0 : Int) ≤ (k : Int) := by omega
          have i3 : (LS.length : Int) ≤ 10000 := by have := HLS.out; omega
          obtain ⟨p1, o1, rfl, hL1⟩ := (HR4c.out.below hw).at_ hlt
          obtain ⟨p2, o2, rfl, hL2⟩ := (HR6c.out.below hw).at_ hlt
          have x0 := hL1.2 k hlt 0 _ rfl
          have x1 := hL1.2 k hlt 1 _ rfl
          have x2 := hL1.2 k hlt 2 _ rfl
          have y0 := hL2.2 k hlt 0 _ rfl
          have y1 := hL2.2 k hlt 1 _ rfl
          have y2 := hL2.2 k hlt 2 _ rfl
          rw [Nat.add_zero] at x0 y0
          generalize LS[k] = z at *
          have hne := run_neqG z z true (by simp)
          have HW := hid hw
          clear hw hL1 hL2
          go_wp2_with fail
          go_quiet (fail)
          generalize hY : wr.drewN nq = W2 at *
          have hb2 : Below wr.heap.size wr W2 := by rw [← hY]; exact g_drewN g_refl nq
          have HW2 := hid (g_trans HW.out hb2)
          clear hY hb2
          go_wp2
          go_roundw
          case rel => exact ⟨k + 1, by omega, by go_num, HW2.out⟩
          case measure => simp [intOf]; omega
        · have i1 : ¬ (k : Int) < (LS.length : Int) := by omega
          have HV13 := hid (HV12.out.below hw)
          have HR113 := hid (HR1c.out.below hw)
          have HR213 := hid (HR2c.out.below hw)
          have HB13 := hid (g_trans HBc.out hw)
          clear HV12 HR1c HR2c HR4c HR6c HBc hw hk hlt
          obtain ⟨a0, a1⟩ := HV13.out.s.two
          obtain ⟨b0, b1, b2, b3', b4, b5⟩ := HV13.out.c.tup
          go_wp2_with fail
          have q14 := match_n ⟨⟨#[]⟩, ⟨#[]⟩, ⟨#[]⟩, t.d, t.e, t.f, true⟩ HV13.out.m ⟨Nat.zero_le _, Nat.zero_le _, Nat.zero_le _, HTF.out.2.2.2.1, HTF.out.2.2.2.2.1, HTF.out.2.2.2.2.2⟩
          rw [EQU.out] at q14
          refine q14.mono ?_
          rintro _ w14 ⟨A14, rfl, hR14, hb14, -⟩
          clear q14 a0 a1 b0 b1 b2 b3' b4 b5
          have HV14 := hid (HV13.out.below hb14)
          have HR14 := hid hR14
          have HB14 := hid hb14
          clear hR14 hb14
          obtain ⟨a0, a1⟩ := HV14.out.s.two
          obtain ⟨b0, b1, b2, b3', b4, b5⟩ := HV14.out.c.tup
          go_wp2_with fail
          have q15 := match_n ⟨t.a, t.b, t.c, ⟨#[]⟩, ⟨#[]⟩, ⟨#[]⟩, false⟩ HV14.out.m ⟨HTF.out.1, HTF.out.2.1, HTF.out.2.2.1, Nat.zero_le _, Nat.zero_le _, Nat.zero_le _⟩
          rw [EQG.out] at q15
          refine q15.mono ?_
          rintro _ w15 ⟨A15, rfl, hR15, hb15, -⟩
          clear q15 a0 a1 b0 b1 b2 b3' b4 b5
          have hB := g_trans HB14.out hb15
          have hD := g_drew (g_refl (a := w15))
          have HX2 : Hid (Row w15.drew A2 LU) := hid ((HR213.out.below hB).below hD)
          have HX1 : Hid (Row w15.drew A1 LG) := hid ((HR113.out.below hB).below hD)
          have HX14 : Hid (Row w15.drew A14 LU) := hid ((HR14.out.below hb15).below hD)
          have HX15 : Hid (Row w15.drew A15 LG) := hid (hR15.below hD)
          have HXM : Hid (MapL w15.drew ov T L) := hid (((HV13.out.below hB).below hD).m.toMapL)
          have HXD : Hid (Row w15.drew D L) := hid (((HV13.out.below hB).below hD).r)
          have HB15 := hid (g_trans HB13.out hB)
          have hS : w15.drew.cell? ⟨b3, 0, none⟩ = some ov ∧ w15.drew.cell? ⟨b3, 1, none⟩ = some (.pointer T.ad) ∧ w15.drew.cell? ⟨g, 0, none⟩ = some (.string t.a) ∧ w15.drew.cell? ⟨g, 1, none⟩ = some (.string t.b) ∧ w15.drew.cell? ⟨g, 2, none⟩ = some (.string t.c) ∧ w15.drew.cell? ⟨g, 3, none⟩ = some (.string t.d) ∧ w15.drew.cell? ⟨g, 4, none⟩ = some (.string t.e) ∧ w15.drew.cell? ⟨g, 5, none⟩ = some (.string t.f) := by
            obtain ⟨a0, a1⟩ := ((HV13.out.below hB).below hD).s.two
            obtain ⟨b0, b1, b2, b3', b4, b5⟩ := ((HV13.out.below hB).below hD).c.tup
            exact ⟨a0, a1, b0, b1, b2, b3', b4, b5⟩
          have HLN : Hid (L.length ≤ 10000) := hid (by have := HLEN.out; omega)
          obtain ⟨z, hz⟩ : ∃ z, decide (t ∈ L) = z := ⟨_, rfl⟩
          obtain ⟨v, hv⟩ : ∃ v, inI t L = v := ⟨_, rfl⟩
          have hve : (v == 1) = z := by rw [← hv, ← hz]; unfold inI; by_cases c : t ∈ L <;> simp [c]
          have HZ := hid hz
          have HV := hid hv
          clear hz hv hB hD hR15 hb15 HV13 HV14 HR14 HB14 HR113 HR213 HB13
          go_wp2_with fail
          go_region_held3 (fun w' => w'.cell? ⟨b3, 0, none⟩ = some ov ∧ w'.cell? ⟨b3, 1, none⟩ = some (.pointer T.ad) ∧ w'.cell? ⟨g, 0, none⟩ = some (.string t.a) ∧ w'.cell? ⟨g, 1, none⟩ = some (.string t.b) ∧ w'.cell? ⟨g, 2, none⟩ = some (.string t.c) ∧ w'.cell? ⟨g, 3, none⟩ = some (.string t.d) ∧ w'.cell? ⟨g, 4, none⟩ = some (.string t.e) ∧ w'.cell? ⟨g, 5, none⟩ = some (.string t.f))
            (first | with_reducible assumption | with_reducible exact kpn8 (by with_reducible assumption) (by with_reducible assumption))
            (first
            | (go_at_call 14; (with_reducible refine Calls.mono (rsame_g A14 A2 LU LU LU.length LU.length _ 1 HX14.out HX2.out HLU.out (sameI_self _)) ?_); rintro _ x1 ⟨rfl, hc1⟩; have hB1 := hc1)
            | (go_at_call 14; (with_reducible refine Calls.mono (rsame_g A15 A1 LG LG LG.length LG.length _ 1 (HX15.out.below hB1) (HX1.out.below hB1) HLG.out (sameI_self _)) ?_); rintro _ x2 ⟨rfl, hc2⟩; have hB2 := g_trans hB1 hc2)
            | (go_at_call 18; (with_reducible refine Calls.mono (has_l t z HZ.out (HXM.out.below hB2) (Nat.le_trans HLN.out (by decide))) ?_); rintro _ x3 ⟨rfl, hc3⟩; have hB3 := g_trans hB2 hc3)
            | (go_at_call 19; (with_reducible refine Calls.mono (rin_f D L cD t _ v (HXD.out.below hB3) HLN.out HV.out) ?_); rintro _ x4 ⟨rfl, hc4⟩; have hB4 := g_trans hB3 hc4)
            | (go_at_call 20; (with_reducible refine Calls.mono (lives_any _) ?_); rintro _ x5 ⟨rfl, hc5⟩; have hB5 := g_trans hB4 hc5))
          all_goals
            go_wp2
            go_ret
            have h := HQ.out
            subst h
            exact ⟨rfl, g_trans (g_trans HA.out HB15.out) (g_trans (g_drew g_refl) hB5)⟩
      --]rest2
      --]rest2
    --]rest
end Go.Proofs.YtgfgfggoofjeeaaGreat.DT
namespace Go.Proofs.YtgfgfggoofjeeaaGreat.setsViews
open DT Go.ChangeShapes Go.WideShapes Go.ChangeAt Go.RowKit

theorem own : ownKnob Tryz.prog.godebug = none := by kernel_rfl
theorem cSS : Tryz.prog.cellsOf 27 = 2 := by kernel_rfl
theorem cT : Tryz.prog.cellsOf 24 = 1 := by kernel_rfl
theorem cS : Tryz.prog.cellsOf 22 = 1 := by kernel_rfl
theorem cE : Tryz.prog.cellsOf 28 = 2 := by kernel_rfl
theorem cB : Tryz.prog.cellsOf 5 = 1 := by kernel_rfl
theorem cS2 : Tryz.prog.cellsOf 25 = 1 := by kernel_rfl
theorem cE2 : Tryz.prog.cellsOf 78 = 3 := by kernel_rfl
theorem cF : Tryz.prog.cellsOf 30 = 3 := by kernel_rfl
theorem laid : laidOutB Tryz.prog = true := by kernel_rfl

set_option maxRecDepth 100000 in
theorem lifted (os : Os) (started : os.Started) (H : Type) (enc : TypeId × Value → H) :
    ReturnsInHanded {} Tryz.checked os 3 .any (Rows.setsViewsSpec.pre6 enc Tryz.prog Tryz.f3 Rows.setsViewsRow.domain false) (Rows.setsViewsSpec.post enc Tryz.prog Tryz.f3 false true false false) := by
  refine returnsInHanded_of_change (C := Tryz.checked) own started (by kernel_rfl) Tryz.func3
    (ChangeSpec.witness6 (enc := enc) (C := Tryz.checked) false ⟨#[], #[.agg #[.slice none 0 0, .slice none 0 0], .agg #[.int .u8 0, .int .u8 0, .int .u8 0], .agg #[.int .u8 0, .int .u8 0]], []⟩ 8 (by kernel_rfl) (by kernel_rfl) (by kernel_rfl) (by kernel_rfl)) ?_
  intro W base args ds gs before hval0 hW hcnd _
  have hval : ∀ (j : Nat) t v, Tryz.f3.params[j]? = some t → args[j]? = some v → Value.okWide Tryz.prog W .any base t v := hval0
  have hW' := hW
  obtain ⟨p, q, hA0, hV, rfl, hfz, hnd⟩ := hW
  have hA : DataW.TrodAll enc Tryz.prog W 0 (fun _ => true) true Tryz.f3.params.toList args.toList ds p := hA0
  rw [Tryz.params3] at hA hval
  obtain ⟨v0, vs0, d0, ds0, p0, q0, hargs, rfl, rfl, h0, r0⟩ := trodAll_cons hA
  obtain ⟨v1, vs1, d1, ds1, p1, q1, rfl, rfl, rfl, h1, r1⟩ := trodAll_cons r0
  obtain ⟨v2, vs2, d2, ds2, p2, q2, rfl, rfl, rfl, h2, r2⟩ := trodAll_cons r1
  obtain ⟨rfl, rfl, rfl⟩ := trodAll_nil r2
  obtain rfl : args = #[v0, v1, v2] := by cases args; simp_all
  obtain ⟨rfl, rfl⟩ := trodVars_none hV
  have k0 := h0
  have k1 := h1
  have k2 := h2
  obtain ⟨A, x, c, B, y, c2, rfl, hx, hR, hy, hM⟩ := open_set Tryz.underlying27 rfl rfl rfl rfl cSS Tryz.underlying24 rfl rfl cT cS Tryz.underlying22 Tryz.underlying28 cE cB Tryz.underlying5 cS2 Tryz.underlying25 Tryz.underlying78 cE2 (hval 0 27 v0 rfl rfl) h0
  obtain ⟨f0, f1, f2, rfl, hf0, hf1, -⟩ := open_F Tryz.underlying30 rfl rfl rfl rfl cF Tryz.underlying28 cE cB Tryz.underlying5 (hval 1 30 v1 rfl rfl) h1
  obtain ⟨n0, n1, rfl, hn0, hn1⟩ := open_two Tryz.underlying28 cE cB Tryz.underlying5 (hval 2 28 v2 rfl rfl) h2
  have hlt0 : ∀ x ∈ p0, x.block < W.heap.size := fun x hx => by simpa using hW'.lt x (by simp [hx])
  have hlt1 : ∀ x ∈ p1, x.block < W.heap.size := fun x hx => by simpa using hW'.lt x (by simp [hx])
  have hlt2 : ∀ x ∈ p2, x.block < W.heap.size := fun x hx => by simpa using hW'.lt x (by simp [hx])
  clear hA0 hval0
  refine (views_walk A x c B y c2 f0 f1 f2 n0 n1 W hR hx hM hy hf0 hf1 hn0 hn1).mono fun r W' ⟨he, hg⟩ => ?_
  subst he
  exact ⟨_, rfl, _, _, _, [], _, _, hW', trodAll_cons_mk (shut_bool Tryz.underlying4 _) trodAll_mk0,
    trodAll_cons_mk (Below.trod laid (by kernel_rfl) (of_decide_eq_true (by kernel_rfl)) k0 hg hlt0) (trodAll_cons_mk (Below.trod laid (by kernel_rfl) (of_decide_eq_true (by kernel_rfl)) k1 hg hlt1) (trodAll_cons_mk (Below.trod laid (by kernel_rfl) (of_decide_eq_true (by kernel_rfl)) k2 hg hlt2) trodAll_mk0)), rfl, hg.frame _, fun h => by cases h⟩

theorem over : Rows.setsViewsRow.holds Tryz.pinned (OpenSpec.ofChange Rows.setsViewsSpec) :=
  OpenClaim.holds_of_wide 3 Tryz.f3 rfl rfl rfl rfl rfl rfl rfl ⟨rfl, rfl, rfl, rfl, rfl⟩ rfl rfl rfl rfl rfl (by kernel_rfl) Tryz.func3 (by kernel_rfl)
    (of_decide_eq_true (by kernel_rfl)) (by unfold Func.isWrapper; first | (rw [if_pos (by decide +kernel)]; kernel_rfl) | (rw [if_neg (by decide +kernel)]; exact ⟨rfl, rfl⟩))
    (fun os started H enc _ => lifted os started H enc)

theorem proved : Rows.SetsViewsSaid := over
end Go.Proofs.YtgfgfggoofjeeaaGreat.setsViews
