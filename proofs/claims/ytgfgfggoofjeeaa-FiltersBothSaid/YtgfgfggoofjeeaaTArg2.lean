/-
  ARGUMENTS AS DATA: a tuple by value, and a slice of tuples, taken apart.
-/
import Derived.Test.YtgfgfggoofjeeaaTArgs
import Derived.Test.YtgfgfggoofjeeaaTRow
namespace Go.Proofs.Ytgfgfggoofjeeaa
open Go.ChangeShapes Go.WideShapes Go.ChangeAt Go.RowKit Go.Deep Go.Sort
variable {H : Type} {enc : TypeId × Value → H} {P : Program} {w : World} {base : Nat} {spare : Nat → Bool} {held : Bool}

/-- two strings of a struct -/
theorem trod_obj {o s : TypeId} {f0 f1 : Field} {fuel : Nat} {u v : Value} {x : DataW H × List MemPlace} (ho : P.underlying o = some (.struct #[f0, f1])) (t0 : f0.type = s) (t1 : f1.type = s) (o0 : f0.offset = 0) (o1 : f1.offset = 1) (cs : P.cellsOf s = 1) (hs : P.underlying s = some .string)
    (h : DataW.trod enc P w base spare held fuel o [u, v] = some x) : ∃ a b : ByteArray, u = .string a ∧ v = .string b ∧ a.size ≤ maxLen ∧ b.size ≤ maxLen := by
  obtain ⟨y0, y1, n, _, _, h0, h1⟩ := trod_struct2 ho h
  rw [t0, o0, cs] at h0
  rw [t1, o1, cs] at h1
  obtain ⟨a, e0, -, w0⟩ := DataW.trod_string (cs := [u]) hs (by simpa using h0)
  obtain ⟨b, e1, -, w1⟩ := DataW.trod_string (cs := [v]) hs (by simpa using h1)
  simp only [List.cons.injEq, and_true] at e0 e1
  exact ⟨a, b, e0, e1, w0, w1⟩
/-- an object and a string -/
theorem trod_goal {g o s : TypeId} {f0 f1 k0 k1 : Field} {fuel : Nat} {u v z : Value} {x : DataW H × List MemPlace} (hg : P.underlying g = some (.struct #[k0, k1])) (ho : P.underlying o = some (.struct #[f0, f1])) (t0 : f0.type = s) (t1 : f1.type = s) (o0 : f0.offset = 0) (o1 : f1.offset = 1) (cs : P.cellsOf s = 1) (hs : P.underlying s = some .string)
    (co : P.cellsOf o = 2) (q0 : k0.type = o) (q1 : k1.type = s) (r0 : k0.offset = 0) (r1 : k1.offset = 2)
    (h : DataW.trod enc P w base spare held fuel g [u, v, z] = some x) : ∃ a b c : ByteArray, u = .string a ∧ v = .string b ∧ z = .string c ∧ a.size ≤ maxLen ∧ b.size ≤ maxLen ∧ c.size ≤ maxLen := by
  obtain ⟨y0, y1, n, _, _, h0, h1⟩ := trod_struct2 hg h
  rw [q0, r0, co] at h0
  rw [q1, r1, cs] at h1
  obtain ⟨a, b, e0, e1, w0, w1⟩ := trod_obj (u := u) (v := v) ho t0 t1 o0 o1 cs hs (by simpa using h0)
  obtain ⟨c, e2, -, w2⟩ := DataW.trod_string (cs := [z]) hs (by simpa using h1)
  simp only [List.cons.injEq, and_true] at e2
  exact ⟨a, b, c, e0, e1, e2, w0, w1, w2⟩
/-- what the types of tuples are, in a program -/
structure TupTypes (P : Program) (t g u o s : TypeId) (m0 m1 k0 k1 l0 l1 f0 f1 : Field) : Prop where
  ht : P.underlying t = some (.struct #[m0, m1])
  hg : P.underlying g = some (.struct #[k0, k1])
  hu : P.underlying u = some (.struct #[l0, l1])
  ho : P.underlying o = some (.struct #[f0, f1])
  hs : P.underlying s = some .string
  ct : P.cellsOf t = 6
  cg : P.cellsOf g = 3
  cu : P.cellsOf u = 3
  co : P.cellsOf o = 2
  cs : P.cellsOf s = 1
  tm : m0.type = g ∧ m1.type = u ∧ m0.offset = 0 ∧ m1.offset = 3
  tk : k0.type = o ∧ k1.type = s ∧ k0.offset = 0 ∧ k1.offset = 2
  tl : l0.type = o ∧ l1.type = s ∧ l0.offset = 0 ∧ l1.offset = 2
  tf : f0.type = s ∧ f1.type = s ∧ f0.offset = 0 ∧ f1.offset = 1
section
variable {t g u o s : TypeId} {m0 m1 k0 k1 l0 l1 f0 f1 : Field}
theorem TupTypes.open_ (T : TupTypes P t g u o s m0 m1 k0 k1 l0 l1 f0 f1) {fuel : Nat} {v0 v1 v2 v3 v4 v5 : Value} {x : DataW H × List MemPlace} (h : DataW.trod enc P w base spare held fuel t [v0, v1, v2, v3, v4, v5] = some x) :
    ∃ y : Tup, v0 = .string y.a ∧ v1 = .string y.b ∧ v2 = .string y.c ∧ v3 = .string y.d ∧ v4 = .string y.e ∧ v5 = .string y.f ∧ Fits y := by
  obtain ⟨y0, y1, n, _, _, h0, h1⟩ := trod_struct2 T.ht h
  rw [T.tm.1, T.tm.2.2.1, T.cg] at h0
  rw [T.tm.2.1, T.tm.2.2.2, T.cu] at h1
  obtain ⟨a, b, c, e0, e1, e2, w0, w1, w2⟩ := trod_goal (u := v0) (v := v1) (z := v2) T.hg T.ho T.tf.1 T.tf.2.1 T.tf.2.2.1 T.tf.2.2.2 T.cs T.hs T.co T.tk.1 T.tk.2.1 T.tk.2.2.1 T.tk.2.2.2 (by simpa using h0)
  obtain ⟨d, e, f, e3, e4, e5, w3, w4, w5⟩ := trod_goal (u := v3) (v := v4) (z := v5) T.hu T.ho T.tf.1 T.tf.2.1 T.tf.2.2.1 T.tf.2.2.2 T.cs T.hs T.co T.tl.1 T.tl.2.1 T.tl.2.2.1 T.tl.2.2.2 (by simpa using h1)
  exact ⟨⟨a, b, c, d, e, f⟩, e0, e1, e2, e3, e4, e5, w0, w1, w2, w3, w4, w5⟩
/-- a tuple by value -/
theorem TupTypes.value (T : TupTypes P t g u o s m0 m1 k0 k1 l0 l1 f0 f1) {r : Reach} {b0 : Nat} {v : Value} {d : DataW H} {p : List MemPlace} (hv : Value.okWide P w r b0 t v) (h : DataW.Trod enc P w base spare held t v d p) :
    ∃ y : Tup, v = .agg #[.string y.a, .string y.b, .string y.c, .string y.d, .string y.e, .string y.f] ∧ Fits y := by
  obtain ⟨cs, rfl, hsz⟩ := okWide_struct T.ht hv
  obtain ⟨l⟩ := cs
  match l, hsz.trans T.ct with
  | [v0, v1, v2, v3, v4, v5], _ =>
    obtain ⟨fuel, hf⟩ := h
    obtain ⟨y, rfl, rfl, rfl, rfl, rfl, rfl, hy⟩ := T.open_ (v0 := v0) (v1 := v1) (v2 := v2) (v3 := v3) (v4 := v4) (v5 := v5) (by simpa [Value.cells] using hf)
    exact ⟨y, rfl, hy⟩
/-- the string in a cell -/
def cellS (w : World) (a : Addr) : ByteArray :=
  match w.cell? a with
  | some (.string s) => s
  | _ => ⟨#[]⟩
theorem cellS_of {w : World} {a : Addr} {s : ByteArray} (h : w.cell? a = some (.string s)) : cellS w a = s := by unfold cellS; rw [h]
def cellT (w : World) (a : Addr) (i : Nat) : Tup := ⟨cellS w (a.add (i * 6)), cellS w (a.add (i * 6 + 1)), cellS w (a.add (i * 6 + 2)), cellS w (a.add (i * 6 + 3)), cellS w (a.add (i * 6 + 4)), cellS w (a.add (i * 6 + 5))⟩
/-- a slice of tuples -/
theorem TupTypes.slice (T : TupTypes P t g u o s m0 m1 k0 k1 l0 l1 f0 f1) {z : TypeId} {r : Reach} {b0 : Nat} {v : Value} {d : DataW H} {p : List MemPlace} (hz : P.underlying z = some (.slice t)) (hv : Value.okWide P w r b0 z v) (h : DataW.Trod enc P w base spare held z v d p) :
    ∃ A l c, v = .slice A l.length c ∧ l.length ≤ c ∧ c ≤ maxLen ∧ Go.Proofs.Ytgfgfggoofjeeaa.Row w A l ∧ ∀ y ∈ l, Fits y := by
  obtain ⟨a0, n0, c0, rfl⟩ := okWide_slice hz hv
  obtain ⟨fuel, hf⟩ := h
  rcases open_slice hz hf with ⟨hc, -⟩ | ⟨a, len, cap, m, k, D, Pl, hc, hbase, hle, hcap, hm, -, hel⟩
  · have hc' : Value.slice a0 n0 c0 = .slice none 0 0 := by simpa [Value.cells] using hc
    rw [hc']
    exact ⟨none, [], 0, rfl, Nat.le_refl _, Nat.zero_le _, Row.nil _ _, fun y hy => absurd hy List.not_mem_nil⟩
  · have hc' : Value.slice a0 n0 c0 = .slice (some a) len cap := by simpa [Value.cells] using hc
    rw [hc']
    have hml : len ≤ m := by rw [hm]; split <;> omega
    have key : ∀ i, i < len → ∃ y : Tup, w.cell? (a.add (i * 6)) = some (.string y.a) ∧ w.cell? (a.add (i * 6 + 1)) = some (.string y.b) ∧ w.cell? (a.add (i * 6 + 2)) = some (.string y.c) ∧ w.cell? (a.add (i * 6 + 3)) = some (.string y.d) ∧ w.cell? (a.add (i * 6 + 4)) = some (.string y.e) ∧ w.cell? (a.add (i * 6 + 5)) = some (.string y.f) ∧ Fits y := fun i hi => by
      obtain ⟨cs', hcells, htr⟩ := hel i (by omega)
      rw [T.ct] at hcells
      obtain ⟨_, hlen, hcell⟩ := World.cells?_some hcells
      match cs', hlen with
      | [v0, v1, v2, v3, v4, v5], _ =>
        obtain ⟨y, rfl, rfl, rfl, rfl, rfl, rfl, hy⟩ := T.open_ htr
        have q0 := hcell 0 (by decide); have q1 := hcell 1 (by decide); have q2 := hcell 2 (by decide); have q3 := hcell 3 (by decide); have q4 := hcell 4 (by decide); have q5 := hcell 5 (by decide)
        rw [Addr.add_add] at q0 q1 q2 q3 q4 q5
        exact ⟨y, by simpa using q0, by simpa using q1, by simpa using q2, by simpa using q3, by simpa using q4, by simpa using q5, hy⟩
    have kt : ∀ i, i < len → ∀ y : Tup, (w.cell? (a.add (i * 6)) = some (.string y.a) ∧ w.cell? (a.add (i * 6 + 1)) = some (.string y.b) ∧ w.cell? (a.add (i * 6 + 2)) = some (.string y.c) ∧ w.cell? (a.add (i * 6 + 3)) = some (.string y.d) ∧ w.cell? (a.add (i * 6 + 4)) = some (.string y.e) ∧ w.cell? (a.add (i * 6 + 5)) = some (.string y.f) ∧ Fits y) → cellT w a i = y := fun i _ y ⟨q0, q1, q2, q3, q4, q5, _⟩ => by
      unfold cellT; rw [cellS_of q0, cellS_of q1, cellS_of q2, cellS_of q3, cellS_of q4, cellS_of q5]
    refine ⟨some a, (List.range len).map (cellT w a), cap, by simp, by simpa using hle, hcap, fun hne => ?_, fun y hy => ?_⟩
    · have hlen : 0 < len := by
        rcases Nat.eq_zero_or_pos len with h | h
        · subst h; exact absurd rfl hne
        · exact h
      obtain ⟨y0, hc0, -⟩ := key 0 hlen
      have ha := addr_none (by simpa using hc0)
      have hlt := World.block_lt_of_cell? _ _ hc0
      rw [ha] at hlt
      refine ⟨a.block, a.off, by rw [← ha], by simpa [Addr.add] using hlt, fun i hi c v hv => ?_⟩
      have hi' : i < len := by simpa using hi
      obtain ⟨y, hy⟩ := key i hi'
      have e := kt i hi' y hy
      simp only [List.getElem_map, List.getElem_range, e] at hv
      obtain ⟨q0, q1, q2, q3, q4, q5, _⟩ := hy
      rw [ha, add_plain] at q0 q1 q2 q3 q4 q5
      have hc := enc_lt hv
      simp only [Go.Proofs.Ytgfgfggoofjeeaa.enc] at hv
      match c, hc with
      | 0, _ => simp at hv; subst hv; rw [← Nat.add_assoc] at *; exact q0
      | 1, _ => simp at hv; subst hv; rw [← Nat.add_assoc] at *; exact q1
      | 2, _ => simp at hv; subst hv; rw [← Nat.add_assoc] at *; exact q2
      | 3, _ => simp at hv; subst hv; rw [← Nat.add_assoc] at *; exact q3
      | 4, _ => simp at hv; subst hv; rw [← Nat.add_assoc] at *; exact q4
      | 5, _ => simp at hv; subst hv; rw [← Nat.add_assoc] at *; exact q5
    · obtain ⟨i, hi, rfl⟩ := List.mem_map.1 hy
      have hi' : i < len := List.mem_range.1 hi
      obtain ⟨y, hy⟩ := key i hi'
      rw [kt i hi' y hy]
      exact hy.2.2.2.2.2.2
end
theorem tupTypes : ∃ m0 m1 k0 k1 l0 l1 f0 f1, TupTypes Try.prog 44 42 33 31 9 m0 m1 k0 k1 l0 l1 f0 f1 :=
  ⟨_, _, _, _, _, _, _, _, Try.underlying44, Try.underlying42, Try.underlying33, Try.underlying31, Try.underlying9, by kernel_rfl, by kernel_rfl, by kernel_rfl, by kernel_rfl, by kernel_rfl, ⟨rfl, rfl, rfl, rfl⟩, ⟨rfl, rfl, rfl, rfl⟩, ⟨rfl, rfl, rfl, rfl⟩, ⟨rfl, rfl, rfl, rfl⟩⟩

end Go.Proofs.Ytgfgfggoofjeeaa
