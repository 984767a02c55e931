/-
  THE CONTRACTS of a map's methods in the words of its list (keys: tuples, in their order).
-/
import Derived.Test.YtgfgfggoofjeeaaGreatDTMap
namespace Go.Proofs.YtgfgfggoofjeeaaGreat.DT
open Go.RowKit Go.Deep

/-- a map lies in w, is balanced, ascends, and has the order of tuples, if it has one -/
structure MapL (w : World) (ov : Value) (T : Tr) (l : List Tup) : Prop where
  lies : Lies w T
  bal : T.Bal
  li : T.li = l
  asc : Asc cmpT l
  ov : OV ov T
theorem MapL.below {w w' : World} {ov : Value} {T : Tr} {l : List Tup} (h : MapL w ov T l) (hb : Below w.heap.size w w') : MapL w' ov T l := ⟨h.lies.below hb, h.bal, h.li, h.asc, h.ov⟩
theorem MapL.nil (w : World) : MapL w fv (.nil : Tr) [] := ⟨trivial, trivial, rfl, List.Pairwise.nil, .inl rfl⟩
theorem MapL.zero (w : World) : MapL w .nilFunc (.nil : Tr) [] := ⟨trivial, trivial, rfl, List.Pairwise.nil, .inr ⟨rfl, rfl⟩⟩
theorem MapL.sz {w : World} {ov : Value} {T : Tr} {l : List Tup} (h : MapL w ov T l) : T.sz = l.length := by rw [← T.li_len, h.li]
theorem MapL.tnil {w : World} {ov : Value} {T : Tr} (h : MapL w ov T []) : T = .nil := by
  have := h.sz
  cases T with
  | nil => rfl
  | node b l k r => rw [Tr.sz_node] at this; simp at this
theorem MapL.full {w : World} {ov : Value} {T : Tr} {l : List Tup} (h : MapL w ov T l) (hl : l ≠ []) : ov = fv := h.ov.elim id fun ⟨_, e⟩ => absurd (by rw [← h.li, e]; rfl) hl
def GivesL (w : World) (l : List Tup) (e : Ending) (w' : World) : Prop := ∃ T : Tr, e = .returned (.agg #[fv, .pointer T.ad]) ∧ MapL w' fv T l ∧ Below w.heap.size w w'
variable {ov : Value} {w : World} {T : Tr} {l : List Tup}
theorem look_miss (h : MapL w ov T l) {k : Tup} (hk : k ∉ l) : (Tr.look k T).2 = .nil := by
  cases e : (Tr.look k T).2 with
  | nil => rfl
  | node b l' k0 r =>
    have h1 := (Tr.look_spec k T (by rw [h.li]; exact h.asc)).2.2 _ _ _ _ e
    have h2 := List.mem_of_getElem? (Tr.look_node k T e).1
    rw [h1, h.li] at h2
    exact absurd h2 hk
theorem look_hit (h : MapL w ov T l) {k : Tup} (hk : k ∈ l) : ∃ b l' r, (Tr.look k T).2 = .node b l' k r := by
  have hs := Tr.look_spec k T (by rw [h.li]; exact h.asc)
  cases e : (Tr.look k T).2 with
  | nil => exact absurd (by rw [h.li]; exact hk) (hs.2.1 e)
  | node b l' k0 r => rw [hs.2.2 _ _ _ _ e]; exact ⟨_, _, _, rfl⟩
theorem look_rk (h : MapL w ov T l) (k : Tup) : (Tr.look k T).1 = Tr.rk l k := by
  have := (Tr.look_spec k T (by rw [h.li]; exact h.asc)).1
  rwa [h.li] at this
theorem put_l (k : Tup) (h : MapL w fv T l) (hk : k ∉ l) (hn : l.length ≤ 900000) :
    Calls Tryz.prog 51 #[.agg #[fv, .pointer T.ad], .agg #[.string k.a, .string k.b, .string k.c, .string k.d, .string k.e, .string k.f], .agg #[]] w (GivesL w (ins cmpT k l)) :=
  (put_any T k w h.lies h.bal (by rw [h.sz]; exact hn) (look_miss h hk)).mono fun _ _ ⟨T', he, hl, ⟨hb, hli⟩, hbel⟩ =>
    ⟨T', he, ⟨hl, hb, by rw [hli, look_rk h, h.li, Tr.ins_new h.asc hk], asc_ins tot k l h.asc hk, .inl rfl⟩, hbel⟩
theorem drop_l (k : Tup) (h : MapL w fv T l) (hk : k ∈ l) (hn : l.length ≤ 900000) :
    Calls Tryz.prog 48 #[.agg #[fv, .pointer T.ad], .agg #[.string k.a, .string k.b, .string k.c, .string k.d, .string k.e, .string k.f]] w (GivesL w (Tr.del k l)) := by
  obtain ⟨b, l', r, e⟩ := look_hit h hk
  have hx := (Tr.look_node k T e).1
  rw [look_rk h, h.li] at hx
  exact (drop_any T k w h.lies h.bal (by rw [h.sz]; exact hn) e).mono fun _ _ ⟨T', he, hl, ⟨hb, hli⟩, hbel⟩ =>
    ⟨T', he, ⟨hl, hb, by rw [hli, look_rk h, h.li, Tr.del_old h.asc hx], Tr.del_asc h.asc, .inl rfl⟩, hbel⟩
theorem len_l (h : MapL w ov T l) : Calls Tryz.prog 44 #[.agg #[ov, .pointer T.ad]] w fun e w' => e = .returned (.int .i64 (l.length : Nat)) ∧ Below w.heap.size w w' := by
  have q := len_any ov T w h.lies
  rwa [h.sz] at q
theorem get_l (k : Tup) (z : Bool) (hz : decide (k ∈ l) = z) (h : MapL w ov T l) (hn : l.length ≤ 900000) :
    Calls Tryz.prog 41 #[.agg #[ov, .pointer T.ad], .agg #[.string k.a, .string k.b, .string k.c, .string k.d, .string k.e, .string k.f]] w fun e w' => e = .returned (.tuple #[.agg #[], .bool z]) ∧ Below w.heap.size w w' := by
  have q := get_any ov T h.ov k w h.lies (by rw [h.sz]; omega)
  have e : (Tr.look k T).2.some = z := by
    subst hz
    by_cases hk : k ∈ l
    · obtain ⟨b, l', r, e⟩ := look_hit h hk
      rw [e]; simp [hk, Tr.some]
    · rw [look_miss h hk]; simp [hk, Tr.some]
  rwa [e] at q
theorem rank_l (k : Tup) (h : MapL w ov T l) (hn : l.length ≤ 900000) :
    Calls Tryz.prog 57 #[.agg #[ov, .pointer T.ad], .agg #[.string k.a, .string k.b, .string k.c, .string k.d, .string k.e, .string k.f]] w fun e w' => e = .returned (.int .i64 (Tr.rk l k : Nat)) ∧ Below w.heap.size w w' := by
  have q := rank_any ov T h.ov k w h.lies (by rw [h.sz]; omega)
  rwa [look_rk h] at q
theorem at_l {i : Nat} {k : Tup} (hi : l[i]? = some k) (h : MapL w ov T l) (hn : l.length ≤ 900000) :
    Calls Tryz.prog 34 #[.agg #[ov, .pointer T.ad], .int .i64 (i : Nat)] w fun e w' => e = .returned (.tuple #[.agg #[.string k.a, .string k.b, .string k.c, .string k.d, .string k.e, .string k.f], .int .i64 0]) ∧ Below w.heap.size w w' :=
  at_in ov T i k w h.lies (by rw [h.sz]; omega) (by rw [h.li]; exact hi)
theorem new_l (w : World) : Calls Tryz.prog 49 #[fv] w (GivesL w []) :=
  (new_any w).mono fun _ _ ⟨he, hb⟩ => ⟨.nil, he, MapL.nil _, hb⟩
end Go.Proofs.YtgfgfggoofjeeaaGreat.DT
