/-
  THE CONTRACTS of a map's methods in the words of its list (values: string): an order that looks at a number of each key.
-/
import Derived.Test.YthkceffnfhdjhaaDSMet
import Derived.Test.YthkceffnfhdjhaaDSNul
import Derived.Test.YthkceffnfhdjhaaDSort
namespace Go.Proofs.Ythkceffnfhdjhaa.DS
open Go.RowKit Go.Deep

theorem putT_l {c : Int → Int → Int} {f : Int → Int} (hf : Tr.OrdF c f) {T : Tr ByteArray} (ha : Tr.Asc f T.li) (k : Int) (v : ByteArray) : putT c T k v = Tr.putL f T.li k v := by
  obtain ⟨h1, h2, h3⟩ := Tr.look_spec hf k T ha
  have h4 := fun b l k0 v0 r => Tr.look_node c k T (b := b) (l := l) (k' := k0) (v := v0) (r := r)
  unfold putT
  generalize (Tr.look c k T).2 = N at *
  cases N with
  | nil => simp only; rw [h1, Tr.put_new ha (h2 rfl)]
  | node b l k0 v0 r =>
    have h5 := (h4 _ _ _ _ _ rfl).1
    simp only
    rw [h1] at h5 ⊢
    rw [Tr.put_old (h3 _ _ _ _ _ rfl) ha h5]
theorem dropT_l {c : Int → Int → Int} {f : Int → Int} (hf : Tr.OrdF c f) {T : Tr ByteArray} (ha : Tr.Asc f T.li) (k : Int) : dropT c T k = Tr.dropL f T.li k := by
  obtain ⟨h1, h2, h3⟩ := Tr.look_spec hf k T ha
  have h4 := fun b l k0 v0 r => Tr.look_node c k T (b := b) (l := l) (k' := k0) (v := v0) (r := r)
  unfold dropT
  generalize (Tr.look c k T).2 = N at *
  cases N with
  | nil => simp only; rw [Tr.drop_new (h2 rfl)]
  | node b l k0 v0 r =>
    have h5 := (h4 _ _ _ _ _ rfl).1
    simp only
    rw [h1] at h5 ⊢
    rw [Tr.drop_old (h3 _ _ _ _ _ rfl) ha h5]
theorem asc_inj {f : Int → Int} : ∀ {l : List (Int × ByteArray)}, Tr.Asc f l → ∀ p ∈ l, ∀ q ∈ l, f p.1 = f q.1 → p = q
  | [], _, p, hp, _, _, _ => nomatch hp
  | a :: t, h, p, hp, q, hq, e => by
    obtain ⟨h1, h2⟩ := Tr.asc_cons h
    rcases List.mem_cons.1 hp with e1 | hp2
    · rcases List.mem_cons.1 hq with e2 | hq2
      · rw [e1, e2]
      · have := h2 q hq2; rw [e1] at e; omega
    · rcases List.mem_cons.1 hq with e2 | hq2
      · have := h2 p hp2; rw [e2] at e; omega
      · exact asc_inj h1 p hp2 q hq2 e
theorem getT_hit {c : Int → Int → Int} {f : Int → Int} (hf : Tr.OrdF c f) {T : Tr ByteArray} (ha : Tr.Asc f T.li) {k : Int} {p : Int × ByteArray} (hp : p ∈ T.li) (he : f p.1 = f k) : getT c T k = .tuple #[(.string p.2), .bool true] := by
  obtain ⟨h1, h2, h3⟩ := Tr.look_spec hf k T ha
  have h4 := fun b l k0 v0 r => Tr.look_node c k T (b := b) (l := l) (k' := k0) (v := v0) (r := r)
  unfold getT
  generalize (Tr.look c k T).2 = N at *
  cases N with
  | nil => exact absurd he (h2 rfl p hp)
  | node b l k0 v0 r =>
    have h5 := List.mem_of_getElem? (h4 _ _ _ _ _ rfl).1
    have := asc_inj ha p hp _ h5 (by rw [he]; exact (h3 _ _ _ _ _ rfl).symm)
    rw [this]
theorem getT_miss {c : Int → Int → Int} {f : Int → Int} (hf : Tr.OrdF c f) {T : Tr ByteArray} (ha : Tr.Asc f T.li) {k : Int} (hn : ∀ p ∈ T.li, f p.1 ≠ f k) : getT c T k = .tuple #[.string ⟨#[]⟩, .bool false] := by
  obtain ⟨h1, h2, h3⟩ := Tr.look_spec hf k T ha
  have h4 := fun b l k0 v0 r => Tr.look_node c k T (b := b) (l := l) (k' := k0) (v := v0) (r := r)
  unfold getT
  generalize (Tr.look c k T).2 = N at *
  cases N with
  | nil => rfl
  | node b l k0 v0 r => exact absurd (h3 _ _ _ _ _ rfl) (hn _ (List.mem_of_getElem? (h4 _ _ _ _ _ rfl).1))

/-- a map with the order fn: it lies in w, is balanced, and ascends -/
structure MapL (f : Int → Int) (w : World) (T : Tr ByteArray) (l : List (Int × ByteArray)) : Prop where
  lies : Lies w T
  bal : T.Bal
  li : T.li = l
  asc : Tr.Asc f l
theorem MapL.below {f : Int → Int} {w w' : World} {T : Tr ByteArray} {l : List (Int × ByteArray)} (h : MapL f w T l) (hb : Below w.heap.size w w') : MapL f w' T l := ⟨h.lies.below hb, h.bal, h.li, h.asc⟩
theorem MapL.nil (f : Int → Int) (w : World) : MapL f w (.nil : Tr ByteArray) [] := ⟨trivial, trivial, rfl, List.Pairwise.nil⟩
theorem MapL.sz {f : Int → Int} {w : World} {T : Tr ByteArray} {l : List (Int × ByteArray)} (h : MapL f w T l) : T.sz = l.length := by rw [← T.li_len, h.li]
def GivesL (fn : Nat) (f : Int → Int) (w : World) (l : List (Int × ByteArray)) (e : Ending) (w' : World) : Prop := ∃ T : Tr ByteArray, e = .returned (.agg #[.func (.func fn) #[] #[], .pointer T.ad]) ∧ MapL f w' T l ∧ Below w.heap.size w w'
variable {fn : Nat} {c : Int → Int → Int} {f : Int → Int} {w : World} {T : Tr ByteArray} {l : List (Int × ByteArray)}
theorem put_l (hO : Ord fn c) (hf : Tr.OrdF c f) (k : Int) (v : ByteArray) (h : MapL f w T l) (hn : l.length ≤ 900000) :
    Calls Try.prog 37 #[.agg #[.func (.func fn) #[] #[], .pointer T.ad], .int .i64 k, (.string v)] w (GivesL fn f w (Tr.putL f l k v)) :=
  (put_any fn c hO T k v w h.lies h.bal (by rw [h.sz]; exact hn)).mono fun _ _ ⟨T', he, hl, ⟨hb, hli⟩, hbel⟩ => ⟨T', he, ⟨hl, hb, by rw [hli, putT_l hf (by rw [h.li]; exact h.asc), h.li], Tr.put_asc h.asc⟩, hbel⟩
theorem drop_m (hO : Ord fn c) (hf : Tr.OrdF c f) (k : Int) (h : MapL f w T l) (hn : l.length ≤ 900000) :
    Calls Try.prog 43 #[.agg #[.func (.func fn) #[] #[], .pointer T.ad], .int .i64 k] w (GivesL fn f w (Tr.dropL f l k)) :=
  (drop_any fn c hO T k w h.lies h.bal (by rw [h.sz]; exact hn)).mono fun _ _ ⟨T', he, hl, ⟨hb, hli⟩, hbel⟩ => ⟨T', he, ⟨hl, hb, by rw [hli, dropT_l hf (by rw [h.li]; exact h.asc), h.li], Tr.drop_asc h.asc⟩, hbel⟩
theorem new_l (fn : Nat) (f : Int → Int) (w : World) : Calls Try.prog 36 #[.func (.func fn) #[] #[]] w (GivesL fn f w ([] : List (Int × ByteArray))) :=
  (new_any fn w).mono fun _ _ ⟨he, hb⟩ => ⟨.nil, he, MapL.nil f _, hb⟩
theorem len_l (fn : Nat) (h : MapL f w T l) : Calls Try.prog 44 #[.agg #[.func (.func fn) #[] #[], .pointer T.ad]] w fun e w' => e = .returned (.int .i64 (l.length : Nat)) ∧ Below w.heap.size w w' := by
  have q := len_any fn T w h.lies
  rwa [h.sz] at q
theorem get_hit (hO : Ord fn c) (hf : Tr.OrdF c f) {k : Int} {p : Int × ByteArray} (hp : p ∈ l) (he : f p.1 = f k) (h : MapL f w T l) (hn : l.length ≤ 900000) :
    Calls Try.prog 38 #[.agg #[.func (.func fn) #[] #[], .pointer T.ad], .int .i64 k] w fun e w' => e = .returned (.tuple #[(.string p.2), .bool true]) ∧ Below w.heap.size w w' := by
  have q := get_any fn c hO T k w h.lies (by rw [h.sz]; omega)
  rwa [getT_hit hf (by rw [h.li]; exact h.asc) (by rw [h.li]; exact hp) he] at q
theorem get_miss (hO : Ord fn c) (hf : Tr.OrdF c f) {k : Int} (hm : ∀ p ∈ l, f p.1 ≠ f k) (h : MapL f w T l) (hn : l.length ≤ 900000) :
    Calls Try.prog 38 #[.agg #[.func (.func fn) #[] #[], .pointer T.ad], .int .i64 k] w fun e w' => e = .returned (.tuple #[.string ⟨#[]⟩, .bool false]) ∧ Below w.heap.size w w' := by
  have q := get_any fn c hO T k w h.lies (by rw [h.sz]; omega)
  rwa [getT_miss hf (by rw [h.li]; exact h.asc) (by rw [h.li]; exact hm)] at q
theorem rank_l (hO : Ord fn c) (hf : Tr.OrdF c f) (k : Int) (h : MapL f w T l) (hn : l.length ≤ 900000) :
    Calls Try.prog 42 #[.agg #[.func (.func fn) #[] #[], .pointer T.ad], .int .i64 k] w fun e w' => e = .returned (.int .i64 (Tr.rkL f l k : Nat)) ∧ Below w.heap.size w w' := by
  have q := rank_any fn c hO T k w h.lies (by rw [h.sz]; omega)
  rwa [(Tr.look_spec hf k T (by rw [h.li]; exact h.asc)).1, h.li] at q
theorem at_l (fn : Nat) {i : Nat} {k : Int} {v : ByteArray} (hi : l[i]? = some (k, v)) (h : MapL f w T l) (hn : l.length ≤ 900000) :
    Calls Try.prog 39 #[.agg #[.func (.func fn) #[] #[], .pointer T.ad], .int .i64 (i : Nat)] w fun e w' => e = .returned (.tuple #[.agg #[.int .i64 k, (.string v)], .int .i64 0]) ∧ Below w.heap.size w w' :=
  at_in fn T i k v w h.lies (by rw [h.sz]; omega) (by rw [h.li]; exact hi)
theorem at_out (fn : Nat) {i : Int} (hi : i < 0 ∨ (l.length : Int) ≤ i) (h : MapL f w T l) :
    Calls Try.prog 39 #[.agg #[.func (.func fn) #[] #[], .pointer T.ad], .int .i64 i] w fun e w' => e = .returned (.tuple #[.agg #[.int .i64 0, .string ⟨#[]⟩], .int .i64 4]) ∧ Below w.heap.size w w' := by
  by_cases h0 : i < 0
  · exact at_neg fn T i w h0
  · exact at_big fn T i w h.lies (by omega) (by rw [h.sz]; omega)
theorem range_l (fn : Nat) (x y : Int) (h : MapL f w T l) (hn : l.length ≤ 900000) :
    Calls Try.prog 40 #[.agg #[.func (.func fn) #[] #[], .pointer T.ad], .int .i64 x, .int .i64 y] w (Ranges w (Tr.rng x y l)) := by
  have q := range_any fn T x y w h.lies (by rw [h.sz]; omega)
  rw [h.li] at q; exact q
theorem between_l (hO : Ord fn c) (hf : Tr.OrdF c f) (x y : Int) (h : MapL f w T l) (hn : l.length ≤ 900000) :
    Calls Try.prog 41 #[.agg #[.func (.func fn) #[] #[], .pointer T.ad], .int .i64 x, .int .i64 y] w (Ranges w (Tr.rng (Tr.rkL f l x : Nat) (Tr.rkL f l y : Nat) l)) := by
  have q := between_any fn c hO T x y w h.lies (by rw [h.sz]; omega)
  rw [(Tr.look_spec hf x T (by rw [h.li]; exact h.asc)).1, (Tr.look_spec hf y T (by rw [h.li]; exact h.asc)).1, h.li] at q; exact q
theorem depth_l (fn : Nat) (h : MapL f w T l) : Calls Try.prog 45 #[.agg #[.func (.func fn) #[] #[], .pointer T.ad]] w fun e w' => e = .returned (.int .i64 (T.dp : Nat)) ∧ Below w.heap.size w w' :=
  depth_any fn T w h.lies
end Go.Proofs.Ythkceffnfhdjhaa.DS
