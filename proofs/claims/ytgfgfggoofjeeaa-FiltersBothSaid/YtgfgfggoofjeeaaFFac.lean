/-
  PLAIN FACTS about the law's filters F; slices that a call made, taken apart.
  ARGUMENTS AS DATA: the law's F by value, and a filter by value, taken apart.
-/
import Derived.Test.YtgfgfggoofjeeaaFLives
import Derived.Test.YtgfgfggoofjeeaaFOf
import Derived.Test.YtgfgfggoofjeeaaTSm
import Derived.Test.YtgfgfggoofjeeaaTArg2
namespace Go.Proofs.Ytgfgfggoofjeeaa
open Go.RowKit Go.Sort

theorem nb_spc (n : Nat) : nb (spc n) = true := by unfold spc; split; · decide +kernel
                                                   · split <;> decide +kernel
theorem nb_idS (n : Nat) : nb (idS n) = true := by
  unfold idS
  repeat' split
  all_goals decide +kernel
theorem nb_relS (n : Nat) : nb (relS n) = true := by
  unfold relS
  repeat' split
  all_goals decide +kernel
theorem one_ok (p q : Nat) : okT (one p q) = true := by
  by_cases h : 15 ≤ q % 75
  · rw [one_big h]; simp [okT, okSub, nb_spc, nb_idS, nb_relS]
  · rw [one_small h]; simp [okT, okSub, nb_spc, nb_idS, nb_relS]
theorem one_small40 (p q : Nat) : Small (one p q) := small_ok (one_ok p q)
theorem pick_sz {u : Bool} {s : ByteArray} {n : Nat} (h : s.size ≤ n) : (pick u s).size ≤ n := by
  cases u
  · exact Nat.zero_le _
  · exact h
theorem okN_pick {u : Bool} {s : ByteArray} (h : nb s = true) : okN (pick u s) = true := by
  cases u
  · exact okN_e emp
  · exact okN_n h
theorem ofB_small {t : Tup} (h : Small t) (u0 u1 u2 u3 : Bool) : SmallF (ofB t u0 u1 u2 u3) := ⟨pick_sz h.1, pick_sz h.2.1, pick_sz h.2.2.1, pick_sz h.2.2.2.1, pick_sz h.2.2.2.2.1, pick_sz h.2.2.2.2.2⟩
theorem SmallF.fit {f : Fil} (h : SmallF f) : FitF f := by
  obtain ⟨a, b, c, d, e, g⟩ := h
  have k : (40 : Nat) ≤ maxLen := by decide
  exact ⟨Nat.le_trans a k, Nat.le_trans b k, Nat.le_trans c k, Nat.le_trans d k, Nat.le_trans e k, Nat.le_trans g k⟩
theorem ofB_chk {t : Tup} (h : okT t = true) (u0 u1 u2 u3 : Bool) : fchk (ofB t u0 u1 u2 u3) = 0 := by
  unfold okT at h
  simp only [Bool.and_eq_true] at h
  obtain ⟨⟨⟨h1, h2⟩, h3⟩, h4⟩ := h
  cases u3
  · exact fchk_ok (by show (true && !noS _) = false; unfold noS ofB pick; simp) (okN_pick h1) (okN_pick h2) (okN_pick h3) rfl
  · exact fchk_end (u := true) rfl (okN_pick h1) (okN_pick h2) (okN_pick h3) h4 rfl
theorem first_fits {f : Fil} (h : FitF f) : Fits (tupF (fst1 f)) := by
  obtain ⟨a, b, c, d, e, g⟩ := h
  have z : (ByteArray.mk #[]).size ≤ maxLen := Nat.zero_le _
  unfold fst1 tupF
  repeat' split
  all_goals first | exact ⟨z, z, z, z, z, z⟩ | exact ⟨a, z, z, z, z, z⟩ | exact ⟨a, b, z, z, z, z⟩ | exact ⟨a, b, c, z, z, z⟩ | exact ⟨a, b, c, d, e, g⟩
theorem ofF_small (p q n : Nat) : SmallF (ofF p q n) := ofB_small (one_small40 p q) _ _ _ _
theorem ofF_chk (p q n : Nat) : fchk (ofF p q n) = 0 := ofB_chk (one_ok p q) _ _ _ _
theorem takes_z (t : Tup) : takes zF t = true := by unfold takes zF okF; simp
theorem ftakes_q (f : Fil) (t : Tup) (u : Bool) (hv : takes f t = u) (w : World) (n : Nat) (os : Array Obj) :
    Calls Try.prog 17 #[valF f, val t] (grow (w.drewN n) os) fun e w'' => e = .returned (.bool u) ∧ ∃ p : GrownBy, w'' = grow (w.drewN p.n) p.os :=
  Calls.grown_of ((ftakes f t _).mono fun _ _ h => ⟨by rw [h.1, hv], h.2.out⟩)
theorem ftakes_qa (f : Fil) (t : Tup) (u : Bool) (hv : takes f t = u) (w : World) (n : Nat) (os : Array Obj) :
    Calls Try.prog 17 #[.agg #[.string f.a, .string f.b, .string f.c, .string f.d, .string f.e, .string f.f, .bool f.x], .agg #[.string t.a, .string t.b, .string t.c, .string t.d, .string t.e, .string t.f]] (grow (w.drewN n) os) fun e w'' => e = .returned (.bool u) ∧ ∃ p : GrownBy, w'' = grow (w.drewN p.n) p.os := ftakes_q f t u hv w n os
theorem ftakes_qz (t : Tup) (w : World) (n : Nat) (os : Array Obj) :
    Calls Try.prog 17 #[.agg #[.string ⟨#[]⟩, .string ⟨#[]⟩, .string ⟨#[]⟩, .string ⟨#[]⟩, .string ⟨#[]⟩, .string ⟨#[]⟩, .bool false], .agg #[.string t.a, .string t.b, .string t.c, .string t.d, .string t.e, .string t.f]] (grow (w.drewN n) os) fun e w'' => e = .returned (.bool true) ∧ ∃ p : GrownBy, w'' = grow (w.drewN p.n) p.os := ftakes_q zF t true (takes_z t) w n os
theorem rtakes_qa (f : Fil) (t : Tup) (v : Int) (hv : takesI f t = v) (w : World) (n : Nat) (os : Array Obj) :
    Calls Try.prog 10 #[.agg #[.string f.a, .string f.b, .string f.c, .string f.d, .string f.e, .string f.f, .bool f.x], .agg #[.string t.a, .string t.b, .string t.c, .string t.d, .string t.e, .string t.f]] (grow (w.drewN n) os) fun e w'' => e = .returned (.int .i64 v) ∧ ∃ p : GrownBy, w'' = grow (w.drewN p.n) p.os := rtakes_q f t v hv w n os
theorem rfcheck_v (a b c d e f : ByteArray) (x : Bool) (n : Int) (w : World) (h : FitF ⟨a, b, c, d, e, f, x⟩) (hn : fchk ⟨a, b, c, d, e, f, x⟩ = n) :
    Calls Try.prog 9 #[.agg #[.string a, .string b, .string c, .string d, .string e, .string f, .bool x]] w fun r w' => r = .returned (.int .i64 n) ∧ Below w.heap.size w w' := by
  have q := rfcheck ⟨a, b, c, d, e, f, x⟩ w h; rw [hn] at q; exact q
theorem rsame_v (A B : Option Addr) (l m : List Tup) (c d : Nat) (v : Int) (w : World) (hR : Row w A l) (hS : Row w B m) (hn : l.length ≤ 10000) (hv : sameI l m = v) :
    Calls Try.prog 41 #[.slice A l.length c, .slice B m.length d] w fun e w' => e = .returned (.int .i64 v) ∧ Grew w w' := by
  have q := rsame A B l m c d w hR hS hn; rw [hv] at q; exact q
theorem same_self (l : List Tup) : sameI l l = 1 := by unfold sameI; rw [if_pos rfl]
theorem rprefix_i (f : Fil) (n : Int) (w : World) (h : fpre f = n) :
    Calls Try.prog 16 #[valF f] w fun r w' => r = .returned (.int .i64 n) ∧ Grew w w' := by
  have q := rprefix f w; rw [h] at q; exact q
theorem fprefix_i (f : Fil) (n : Int) (w : World) (h : fpre f = n) :
    Calls Try.prog 15 #[valF f] w fun r w' => r = .returned (.int .i64 n) ∧ Below w.heap.size w w' := by
  have q := fprefix f w; rw [h] at q; exact q
/-- a slice that a call made -/
theorem Own.form2 {w : World} {base : Nat} {v : Value} {l : List Tup} (h : Own w base v l) :
    ∃ A c, v = .slice A l.length c ∧ Row w A l ∧ l.length ≤ c ∧ ((A = none ∧ c = 0) ∨ ∃ g, A = some ⟨g, 0, none⟩) := by
  rcases h.form with ⟨rfl, rfl⟩ | ⟨g, cap, rfl, hc, hR⟩
  · exact ⟨none, 0, rfl, Row.nil _ _, Nat.le_refl _, .inl ⟨rfl, rfl⟩⟩
  · exact ⟨_, cap, rfl, hR, hc, .inr ⟨g, rfl⟩⟩
end Go.Proofs.Ytgfgfggoofjeeaa
namespace Go.Proofs.Ytgfgfggoofjeeaa
open Go.ChangeShapes Go.WideShapes Go.ChangeAt Go.RowKit Go.Deep Go.Sort
variable {H : Type} {enc : TypeId × Value → H} {P : Program} {w : World} {base : Nat} {spare : Nat → Bool} {held : Bool}

/-- two bytes of an array, and one more -/
theorem open_F {t e b : TypeId} {f0 f1 : Field} {r : Reach} {b0 : Nat} {v : Value} {d : DataW H} {p : List MemPlace} (ht : P.underlying t = some (.struct #[f0, f1])) (t0 : f0.type = e) (t1 : f1.type = b) (o0 : f0.offset = 0) (o1 : f1.offset = 2) (cT : P.cellsOf t = 3)
    (he : P.underlying e = some (.array 2 b)) (cE : P.cellsOf e = 2) (cB : P.cellsOf b = 1) (hb : P.underlying b = some (.int .u8))
    (hv : Value.okWide P w r b0 t v) (h : DataW.Trod enc P w base spare held t v d p) :
    ∃ x y n : Nat, v = .agg #[.int .u8 x, .int .u8 y, .int .u8 n] ∧ x < 256 ∧ y < 256 ∧ n < 256 := by
  obtain ⟨cs, rfl, hsz⟩ := okWide_struct ht hv
  obtain ⟨l⟩ := cs
  match l, hsz.trans cT with
  | [c0, c1, c2], _ =>
    obtain ⟨fuel, hf⟩ := h
    obtain ⟨y0, y1, n, _, _, h0, h1⟩ := trod_struct2 ht hf
    rw [t0, o0, cE] at h0
    rw [t1, o1, cB] at h1
    obtain ⟨x, y, rfl, rfl, hx, hy⟩ := trod_two he cB hb (u := c0) (v := c1) (by simpa [Value.cells] using h0)
    obtain ⟨m, e2, -, w2⟩ := DataW.trod_int (cs := [c2]) hb (by simpa [Value.cells] using h1)
    simp only [List.cons.injEq, and_true] at e2
    obtain ⟨k2, l2⟩ := u8_nat w2
    exact ⟨x, y, m.toNat, by rw [e2, ← k2], hx, hy, l2⟩
/-- a filter by value -/
theorem TupTypes.filter {t g u o s : TypeId} {m0 m1 k0 k1 l0 l1 f0 f1 : Field} (T : TupTypes P t g u o s m0 m1 k0 k1 l0 l1 f0 f1) {z bo : TypeId} {g0 g1 g2 g3 g4 : Field} {r : Reach} {b0 : Nat} {v : Value} {d : DataW H} {p : List MemPlace} (hz : P.underlying z = some (.struct #[g0, g1, g2, g3, g4]))
    (t0 : g0.type = s ∧ g0.offset = 0) (t1 : g1.type = s ∧ g1.offset = 1) (t2 : g2.type = s ∧ g2.offset = 2) (t3 : g3.type = u ∧ g3.offset = 3) (t4 : g4.type = bo ∧ g4.offset = 6) (cz : P.cellsOf z = 7) (cb : P.cellsOf bo = 1) (hb : P.underlying bo = some .bool)
    (hv : Value.okWide P w r b0 z v) (h : DataW.Trod enc P w base spare held z v d p) : ∃ f : Fil, v = valF f ∧ FitF f := by
  obtain ⟨cs, rfl, hsz⟩ := okWide_struct hz hv
  obtain ⟨l⟩ := cs
  match l, hsz.trans cz with
  | [v0, v1, v2, v3, v4, v5, v6], _ =>
    obtain ⟨fuel, hf⟩ := h
    obtain ⟨xs, n, _, _, _, hlen, hk⟩ := DataW.trod_struct hz hf
    match xs, hlen with
    | [y0, y1, y2, y3, y4], _ =>
      have q0 := hk 0 g0 rfl
      have q1 := hk 1 g1 rfl
      have q2 := hk 2 g2 rfl
      have q3 := hk 3 g3 rfl
      have q4 := hk 4 g4 rfl
      rw [t0.1, t0.2, T.cs] at q0
      rw [t1.1, t1.2, T.cs] at q1
      rw [t2.1, t2.2, T.cs] at q2
      rw [t3.1, t3.2, T.cu] at q3
      rw [t4.1, t4.2, cb] at q4
      obtain ⟨a, e0, -, w0⟩ := DataW.trod_string (cs := [v0]) (x := y0) T.hs (by simpa [Value.cells] using q0)
      obtain ⟨b, e1, -, w1⟩ := DataW.trod_string (cs := [v1]) (x := y1) T.hs (by simpa [Value.cells] using q1)
      obtain ⟨c, e2, -, w2⟩ := DataW.trod_string (cs := [v2]) (x := y2) T.hs (by simpa [Value.cells] using q2)
      obtain ⟨d', e', f', e3, e4, e5, w3, w4, w5⟩ := trod_goal (u := v3) (v := v4) (z := v5) (x := y3) T.hu T.ho T.tf.1 T.tf.2.1 T.tf.2.2.1 T.tf.2.2.2 T.cs T.hs T.co T.tl.1 T.tl.2.1 T.tl.2.2.1 T.tl.2.2.2 (by simpa [Value.cells] using q3)
      obtain ⟨bb, e6, -⟩ := DataW.trod_bool (cs := [v6]) (x := y4) hb (by simpa [Value.cells] using q4)
      simp only [List.cons.injEq, and_true] at e0 e1 e2 e6
      exact ⟨⟨a, b, c, d', e', f', bb⟩, by rw [e0, e1, e2, e3, e4, e5, e6]; rfl, w0, w1, w2, w3, w4, w5⟩
theorem filTypes : ∃ g0 g1 g2 g3 g4, Try.prog.underlying 35 = some (.struct #[g0, g1, g2, g3, g4]) ∧ (g0.type = 9 ∧ g0.offset = 0) ∧ (g1.type = 9 ∧ g1.offset = 1) ∧ (g2.type = 9 ∧ g2.offset = 2) ∧ (g3.type = 33 ∧ g3.offset = 3) ∧ (g4.type = 4 ∧ g4.offset = 6) :=
  ⟨_, _, _, _, _, Try.underlying35, ⟨rfl, rfl⟩, ⟨rfl, rfl⟩, ⟨rfl, rfl⟩, ⟨rfl, rfl⟩, ⟨rfl, rfl⟩⟩
end Go.Proofs.Ytgfgfggoofjeeaa
