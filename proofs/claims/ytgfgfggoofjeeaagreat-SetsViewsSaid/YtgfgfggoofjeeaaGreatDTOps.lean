/-
  THE CONTRACTS of at, insert, replace, remove (keys: tuples, no values).
-/
import Derived.Test.YtgfgfggoofjeeaaGreatDTBal
import Derived.Deep.LoopGhost
namespace Go.Proofs.YtgfgfggoofjeeaaGreat.DT
open Go.RowKit Go.Deep

set_option maxRecDepth 20000 in
set_option maxHeartbeats 1000000 in
theorem at_any (T : Tr) (i : Nat) (k : Tup) (w : World) (hT : Lies w T) (hs : T.sz ≤ 1000000) (hi : T.li[i]? = some k) :
    Calls Tryz.prog 58 #[.pointer T.ad, .int .i64 (i : Nat)] w fun e w' => e = .returned (.agg #[.string k.a, .string k.b, .string k.c, .string k.d, .string k.e, .string k.f]) ∧ Below w.heap.size w w' := by
  have HT := hid (hT.below (g_alloc (g_refl (a := w)) (.cells #[.string ⟨#[]⟩, .string ⟨#[]⟩, .string ⟨#[]⟩, .string ⟨#[]⟩, .string ⟨#[]⟩, .string ⟨#[]⟩] 86 (0, 0))))
  have HI := hid hi
  have HS := hid hs
  clear hT hi hs
  go_enter Tryz.func58, Tryz.ntmps58
  go_wp2_with fail
  go_loopg [0, 1] T.sz (fun n p x wr => ∃ (S : Tr) (j : Nat), n = S.sz ∧ p = .pointer S.ad ∧ x = .int .i64 (j : Nat) ∧ S.li[j]? = some k ∧ S.sz ≤ 1000000 ∧ Lies (w.alloc (.cells #[.string ⟨#[]⟩, .string ⟨#[]⟩, .string ⟨#[]⟩, .string ⟨#[]⟩, .string ⟨#[]⟩, .string ⟨#[]⟩] 86 (0, 0))) S ∧ wr = w.alloc (.cells #[.string ⟨#[]⟩, .string ⟨#[]⟩, .string ⟨#[]⟩, .string ⟨#[]⟩, .string ⟨#[]⟩, .string ⟨#[]⟩] 86 (0, 0)))
  case atStart => exact ⟨T, i, rfl, rfl, rfl, HI.out, HS.out, HT.out, rfl⟩
  case round =>
    obtain ⟨S, j, hn, rfl, rfl, hj, hz, hS, rfl⟩ := hrel
    have hlt : j < S.sz := by rw [← S.li_len]; exact (List.getElem?_eq_some_iff.1 hj).1
    obtain ⟨b, l, k0, r, rfl⟩ := Tr.sz_pos (T := S) (by omega)
    obtain ⟨s0, s1, s2, s3, s4, s5, s6, s7, s8, s9⟩ := hS.six
    have HL := hid hS.left
    have HR := hid hS.right
    have hN := hid hn
    have HJ := hid hj
    rw [Tr.sz_node] at hz hlt
    have HZ := hid hz
    clear s8 s9 hS hj hn HT HI HS
    have b1 : (0 : Int) ≤ (l.sz : Int) := by omega
    have b2 : (l.sz : Int) ≤ 1000000 := by omega
    have b3 : (0 : Int) ≤ (j : Int) := by omega
    have b4 : (j : Int) ≤ 1000000 := by omega
    clear hz
    rcases Nat.lt_trichotomy j l.sz with hc | hc | hc
    · have c1 : (j : Int) < (l.sz : Int) := by omega
      have HC := hid hc
      clear hc hlt
      show Code.wp _ _ _ { tmps := #[.pointer (some ⟨b, 0, none⟩), _, _, _, _, _, _, _, _, _, _, _, _, _, _, _, _, _, _, _, _, _, _, _, _, _, _, _, _, _, _, _, _, _, _], defers := _ } _
      go_wp2_with fail
      refine (count_any l _ HL.out).mono ?_
      rintro _ _ ⟨rfl, rfl⟩
      go_wp2
      go_roundg l.sz
      case measure => rw [hN.out, Tr.sz_node]; omega
      case rel => exact ⟨l, j, rfl, rfl, rfl, by have h := HJ.out; rwa [Tr.li_node, List.getElem?_append_left (by rw [Tr.li_len]; exact HC.out)] at h, by have := HZ.out; omega, HL.out, rfl⟩
    · have c1 : (j : Int) = (l.sz : Int) := by omega
      have hv : k0 = k := by have h := HJ.out; rw [Tr.li_node, List.getElem?_append_right (by rw [Tr.li_len]; omega), Tr.li_len, show j - l.sz = 0 by omega, List.getElem?_cons_zero] at h; injection h
      subst hv; subst hc
      clear c1 hlt
      show Code.wp _ _ _ { tmps := #[.pointer (some ⟨b, 0, none⟩), _, _, _, _, _, _, _, _, _, _, _, _, _, _, _, _, _, _, _, _, _, _, _, _, _, _, _, _, _, _, _, _, _, _], defers := _ } _
      go_wp2_with fail
      refine (count_any l _ HL.out).mono ?_
      rintro _ _ ⟨rfl, rfl⟩
      go_wp2
      refine bodyPost_ret (v := .agg #[.string k0.a, .string k0.b, .string k0.c, .string k0.d, .string k0.e, .string k0.f]) ?_ rfl ?_
      · simp [results, Tryz.results58, go_sem]
      · exact ⟨rfl, g_alloc g_refl _⟩
    · have c1 : (l.sz : Int) < (j : Int) := by omega
      have HC := hid hc
      have c2 : (j : Int) - ((l.sz : Int) + 1) = ((j - l.sz - 1 : Nat) : Int) := by omega
      have HC2 := hid c2
      clear hc hlt c2
      show Code.wp _ _ _ { tmps := #[.pointer (some ⟨b, 0, none⟩), _, _, _, _, _, _, _, _, _, _, _, _, _, _, _, _, _, _, _, _, _, _, _, _, _, _, _, _, _, _, _, _, _, _], defers := _ } _
      go_wp2_with fail
      refine (count_any l _ HL.out).mono ?_
      rintro _ _ ⟨rfl, rfl⟩
      go_wp2
      go_roundg r.sz
      case measure => rw [hN.out, Tr.sz_node]; omega
      case rel => exact ⟨r, j - l.sz - 1, rfl, rfl, congrArg _ HC2.out, by have h := HJ.out; have := HC.out; rwa [Tr.li_node, List.getElem?_append_right (by rw [Tr.li_len]; omega), Tr.li_len, show j - l.sz = (j - l.sz - 1) + 1 by omega, List.getElem?_cons_succ] at h, by have := HZ.out; omega, HR.out, rfl⟩
def InsP (T : Tr) (i : Nat) (k : Tup) (T' : Tr) : Prop := T'.li = T.li.take i ++ k :: T.li.drop i ∧ T'.Bal ∧ T.dp ≤ T'.dp ∧ T'.dp ≤ T.dp + 1
def RemP (T : Tr) (i : Nat) (T' : Tr) : Prop := T'.li = T.li.eraseIdx i ∧ T'.Bal ∧ T'.dp ≤ T.dp ∧ T.dp ≤ T'.dp + 1
theorem sz_of {T : Tr} {n : Nat} (h : T.li.length = n) : T.sz = n := by rw [← h, T.li_len]
theorem InsP.sz {T T' : Tr} {i : Nat} {k : Tup} (h : InsP T i k T') : T'.sz = T.sz + 1 := sz_of (by rw [h.1, List.length_append, List.length_cons, List.length_take, List.length_drop, T.li_len]; omega)
theorem RemP.sz {T T' : Tr} {i : Nat} (h : RemP T i T') : T'.sz ≤ T.sz := by
  have := sz_of (T := T') (n := T'.li.length) rfl
  have h2 : T'.li.length ≤ T.li.length := by rw [h.1, List.length_eraseIdx]; split <;> omega
  rw [T.li_len] at h2; omega
theorem ins_nil {b : Nat} {k : Tup} : InsP .nil 0 k (.node b .nil k .nil) := ⟨rfl, ⟨trivial, trivial, by decide, by decide⟩, by rw [Tr.dp_nil]; omega, by rw [Tr.dp_node, Tr.dp_nil]; omega⟩
theorem ins_pl {b : Nat} {l r T1 T2 : Tr} {k0 k : Tup} {i : Nat} (hB : (Tr.node b l k0 r).Bal) (hi : i ≤ l.sz) (h1 : InsP l i k T1) (h2 : BalP T1 k0 r T2) : InsP (.node b l k0 r) i k T2 := by
  rw [Tr.bal_node] at hB
  obtain ⟨a1, a2, a3, a4⟩ := h1
  obtain ⟨c1, c2, c3, c4, c5⟩ := h2
  refine ⟨?_, c2, ?_, ?_⟩
  · rw [c1, a1, Tr.li_node]; exact Tr.ins_l (by rw [Tr.li_len]; exact hi)
  · rw [Tr.dp_node]
    by_cases hx : T1.dp ≤ r.dp + 1
    · have := c5 hx (by omega); omega
    · omega
  · rw [Tr.dp_node]
    by_cases hx : T1.dp ≤ r.dp + 1
    · have := c5 hx (by omega); omega
    · omega
theorem ins_pr {b : Nat} {l r T1 T2 : Tr} {k0 k : Tup} {i : Nat} (hB : (Tr.node b l k0 r).Bal) (hi : l.sz < i) (h1 : InsP r (i - l.sz - 1) k T1) (h2 : BalP l k0 T1 T2) : InsP (.node b l k0 r) i k T2 := by
  rw [Tr.bal_node] at hB
  obtain ⟨a1, a2, a3, a4⟩ := h1
  obtain ⟨c1, c2, c3, c4, c5⟩ := h2
  refine ⟨?_, c2, ?_, ?_⟩
  · rw [c1, a1, Tr.li_node, ← Tr.li_len l]; exact Tr.ins_r (by rw [Tr.li_len]; exact hi)
  · rw [Tr.dp_node]
    by_cases hx : T1.dp ≤ l.dp + 1
    · have := c5 (by omega) hx; omega
    · omega
  · rw [Tr.dp_node]
    by_cases hx : T1.dp ≤ l.dp + 1
    · have := c5 (by omega) hx; omega
    · omega
theorem rem_pl {b : Nat} {l r T1 T2 : Tr} {k0 : Tup} {i : Nat} (hB : (Tr.node b l k0 r).Bal) (hi : i < l.sz) (h1 : RemP l i T1) (h2 : BalP T1 k0 r T2) : RemP (.node b l k0 r) i T2 := by
  rw [Tr.bal_node] at hB
  obtain ⟨a1, a2, a3, a4⟩ := h1
  obtain ⟨c1, c2, c3, c4, c5⟩ := h2
  refine ⟨?_, c2, ?_, ?_⟩
  · rw [c1, a1, Tr.li_node]; exact Tr.era_l (by rw [Tr.li_len]; exact hi)
  · rw [Tr.dp_node]
    by_cases hx : r.dp ≤ T1.dp + 1
    · have := c5 (by omega) hx; omega
    · omega
  · rw [Tr.dp_node]
    by_cases hx : r.dp ≤ T1.dp + 1
    · have := c5 (by omega) hx; omega
    · omega
theorem rem_pr {b : Nat} {l r T1 T2 : Tr} {k0 : Tup} {i : Nat} (hB : (Tr.node b l k0 r).Bal) (hi : l.sz < i) (h1 : RemP r (i - l.sz - 1) T1) (h2 : BalP l k0 T1 T2) : RemP (.node b l k0 r) i T2 := by
  rw [Tr.bal_node] at hB
  obtain ⟨a1, a2, a3, a4⟩ := h1
  obtain ⟨c1, c2, c3, c4, c5⟩ := h2
  refine ⟨?_, c2, ?_, ?_⟩
  · rw [c1, a1, Tr.li_node, ← Tr.li_len l]; exact Tr.era_r (by rw [Tr.li_len]; exact hi)
  · rw [Tr.dp_node]
    by_cases hx : l.dp ≤ T1.dp + 1
    · have := c5 hx (by omega); omega
    · omega
  · rw [Tr.dp_node]
    by_cases hx : l.dp ≤ T1.dp + 1
    · have := c5 hx (by omega); omega
    · omega
theorem rem_pn {b : Nat} {l : Tr} {k0 : Tup} (hB : (Tr.node b l k0 .nil).Bal) : RemP (.node b l k0 .nil) l.sz l := by
  rw [Tr.bal_node, Tr.dp_nil] at hB
  exact ⟨by rw [Tr.li_node, ← Tr.li_len l, Tr.li_nil, ← Tr.era_m, List.append_nil], hB.1, by rw [Tr.dp_node]; omega, by rw [Tr.dp_node, Tr.dp_nil]; omega⟩
theorem rem_pm {b : Nat} {l r T1 T2 : Tr} {k0 k1 : Tup} (hB : (Tr.node b l k0 r).Bal) (hr : r.li[0]? = some k1) (h1 : RemP r 0 T1) (h2 : BalP l k1 T1 T2) : RemP (.node b l k0 r) l.sz T2 := by
  rw [Tr.bal_node] at hB
  obtain ⟨a1, a2, a3, a4⟩ := h1
  obtain ⟨c1, c2, c3, c4, c5⟩ := h2
  refine ⟨?_, c2, ?_, ?_⟩
  · rw [c1, a1, Tr.li_node, ← Tr.li_len l, ← Tr.era_m, Tr.era_0 hr]
  · rw [Tr.dp_node]
    by_cases hx : l.dp ≤ T1.dp + 1
    · have := c5 hx (by omega); omega
    · omega
  · rw [Tr.dp_node]
    by_cases hx : l.dp ≤ T1.dp + 1
    · have := c5 hx (by omega); omega
    · omega
/-! walks -/
theorem keep8 {a b : World} {p0 p1 p2 p3 p4 p5 p6 p7 o0 o1 o2 o3 o4 o5 o6 o7 : Nat} {x0 x1 x2 x3 x4 x5 x6 x7 : Value} (h : Below a.heap.size a b)
    (s : a.cell? ⟨p0, o0, none⟩ = some x0 ∧ a.cell? ⟨p1, o1, none⟩ = some x1 ∧ a.cell? ⟨p2, o2, none⟩ = some x2 ∧ a.cell? ⟨p3, o3, none⟩ = some x3 ∧ a.cell? ⟨p4, o4, none⟩ = some x4 ∧ a.cell? ⟨p5, o5, none⟩ = some x5 ∧ a.cell? ⟨p6, o6, none⟩ = some x6 ∧ a.cell? ⟨p7, o7, none⟩ = some x7) :
    b.cell? ⟨p0, o0, none⟩ = some x0 ∧ b.cell? ⟨p1, o1, none⟩ = some x1 ∧ b.cell? ⟨p2, o2, none⟩ = some x2 ∧ b.cell? ⟨p3, o3, none⟩ = some x3 ∧ b.cell? ⟨p4, o4, none⟩ = some x4 ∧ b.cell? ⟨p5, o5, none⟩ = some x5 ∧ b.cell? ⟨p6, o6, none⟩ = some x6 ∧ b.cell? ⟨p7, o7, none⟩ = some x7 :=
  ⟨keep1 h s.1, keep1 h s.2.1, keep1 h s.2.2.1, keep1 h s.2.2.2.1, keep1 h s.2.2.2.2.1, keep1 h s.2.2.2.2.2.1, keep1 h s.2.2.2.2.2.2.1, keep1 h s.2.2.2.2.2.2.2⟩
theorem four {w : World} {b : Nat} {l : Tr} {k : Tup} {r : Tr} (h : Lies w (.node b l k r)) : w.cell? ⟨b, 0, none⟩ = some (.string k.a) ∧ w.cell? ⟨b, 1, none⟩ = some (.string k.b) ∧ w.cell? ⟨b, 2, none⟩ = some (.string k.c) ∧ w.cell? ⟨b, 3, none⟩ = some (.string k.d) ∧ w.cell? ⟨b, 4, none⟩ = some (.string k.e) ∧ w.cell? ⟨b, 5, none⟩ = some (.string k.f) ∧ w.cell? ⟨b, 6, none⟩ = some (.pointer l.ad) ∧ w.cell? ⟨b, 7, none⟩ = some (.pointer r.ad) := by
  obtain ⟨s0, s1, s2, s3, s4, s5, s6, s7, -⟩ := h.six
  exact ⟨s0, s1, s2, s3, s4, s5, s6, s7⟩
theorem join6 {w : World} {p q : Nat} {x0 x1 x2 x3 x4 x5 x6 x7 y0 y1 y2 y3 y4 y5 : Value} (h : w.cell? ⟨p, 0, none⟩ = some x0 ∧ w.cell? ⟨p, 1, none⟩ = some x1 ∧ w.cell? ⟨p, 2, none⟩ = some x2 ∧ w.cell? ⟨p, 3, none⟩ = some x3 ∧ w.cell? ⟨p, 4, none⟩ = some x4 ∧ w.cell? ⟨p, 5, none⟩ = some x5 ∧ w.cell? ⟨p, 6, none⟩ = some x6 ∧ w.cell? ⟨p, 7, none⟩ = some x7) (k : w.cell? ⟨q, 0, none⟩ = some y0 ∧ w.cell? ⟨q, 1, none⟩ = some y1 ∧ w.cell? ⟨q, 2, none⟩ = some y2 ∧ w.cell? ⟨q, 3, none⟩ = some y3 ∧ w.cell? ⟨q, 4, none⟩ = some y4 ∧ w.cell? ⟨q, 5, none⟩ = some y5) : w.cell? ⟨p, 0, none⟩ = some x0 ∧ w.cell? ⟨p, 1, none⟩ = some x1 ∧ w.cell? ⟨p, 2, none⟩ = some x2 ∧ w.cell? ⟨p, 3, none⟩ = some x3 ∧ w.cell? ⟨p, 4, none⟩ = some x4 ∧ w.cell? ⟨p, 5, none⟩ = some x5 ∧ w.cell? ⟨p, 6, none⟩ = some x6 ∧ w.cell? ⟨p, 7, none⟩ = some x7 ∧ w.cell? ⟨q, 0, none⟩ = some y0 ∧ w.cell? ⟨q, 1, none⟩ = some y1 ∧ w.cell? ⟨q, 2, none⟩ = some y2 ∧ w.cell? ⟨q, 3, none⟩ = some y3 ∧ w.cell? ⟨q, 4, none⟩ = some y4 ∧ w.cell? ⟨q, 5, none⟩ = some y5 := by
  obtain ⟨s0, s1, s2, s3, s4, s5, s6, s7⟩ := h
  exact ⟨s0, s1, s2, s3, s4, s5, s6, s7, k⟩

set_option maxRecDepth 20000 in
set_option maxHeartbeats 4000000 in
theorem insert_any : ∀ (T : Tr) (i : Nat) (k : Tup) (w : World), Lies w T → T.Bal → T.sz ≤ 1000000 → i ≤ T.sz →
    Calls Tryz.prog 74 #[.pointer T.ad, .int .i64 (i : Nat), .agg #[.string k.a, .string k.b, .string k.c, .string k.d, .string k.e, .string k.f]] w (Gives w (InsP T i k)) := by
  intro T
  induction T with
  | nil =>
    intro i k w hT hB hs hi
    obtain rfl : i = 0 := by rw [Tr.sz_nil] at hi; omega
    have hn : ∀ W, Calls Tryz.prog 88 #[.pointer none, .agg #[.string k.a, .string k.b, .string k.c, .string k.d, .string k.e, .string k.f], .pointer none] W (Gives W fun T => ∃ b, T = .node b .nil k .nil) := fun W => tree_any .nil .nil k W trivial trivial (by decide)
    have HN := hid hn
    clear hT hB hs hi hn
    show Calls _ _ #[.pointer none, _, _] _ _
    go_enter Tryz.func74, Tryz.ntmps74
    go_wp2_with fail
    refine (HN.out _).mono ?_
    rintro _ w1 ⟨T1, rfl, hT1, hp1, hb1⟩
    go_wp2
    go_ret
    obtain ⟨_, rfl⟩ := hp1
    exact ⟨_, rfl, hT1, ins_nil, g_trans (g_alloc g_refl _) hb1⟩
  | node b l k0 r ihl ihr =>
    intro i k w hT hB hs hi
    have hs0 := hs
    rw [Tr.sz_node] at hs hi
    have HS := hid hs
    have HB : Hid (l.Bal ∧ r.Bal ∧ l.dp ≤ r.dp + 1 ∧ r.dp ≤ l.dp + 1) := hid hB
    have HI := hid hi
    have q1 : (0 : Int) ≤ (l.sz : Int) := by omega
    have q2 : (l.sz : Int) ≤ 1000000 := by omega
    have q3 : (0 : Int) ≤ (i : Int) := by omega
    have q4 : (i : Int) ≤ 1000001 := by omega
    have hA := g_alloc (g_refl (a := w)) (.cells #[.string k.a, .string k.b, .string k.c, .string k.d, .string k.e, .string k.f] 86 (0, 0))
    have hbx := box6 w k 86
    have h4 := four (hT.below hA)
    have HSS : Hid ((w.alloc (.cells #[.string k.a, .string k.b, .string k.c, .string k.d, .string k.e, .string k.f] 86 (0, 0))).drew.cell? ⟨b, 0, none⟩ = some (.string k0.a) ∧ (w.alloc (.cells #[.string k.a, .string k.b, .string k.c, .string k.d, .string k.e, .string k.f] 86 (0, 0))).drew.cell? ⟨b, 1, none⟩ = some (.string k0.b) ∧ (w.alloc (.cells #[.string k.a, .string k.b, .string k.c, .string k.d, .string k.e, .string k.f] 86 (0, 0))).drew.cell? ⟨b, 2, none⟩ = some (.string k0.c) ∧ (w.alloc (.cells #[.string k.a, .string k.b, .string k.c, .string k.d, .string k.e, .string k.f] 86 (0, 0))).drew.cell? ⟨b, 3, none⟩ = some (.string k0.d) ∧ (w.alloc (.cells #[.string k.a, .string k.b, .string k.c, .string k.d, .string k.e, .string k.f] 86 (0, 0))).drew.cell? ⟨b, 4, none⟩ = some (.string k0.e) ∧ (w.alloc (.cells #[.string k.a, .string k.b, .string k.c, .string k.d, .string k.e, .string k.f] 86 (0, 0))).drew.cell? ⟨b, 5, none⟩ = some (.string k0.f) ∧ (w.alloc (.cells #[.string k.a, .string k.b, .string k.c, .string k.d, .string k.e, .string k.f] 86 (0, 0))).drew.cell? ⟨b, 6, none⟩ = some (.pointer l.ad) ∧ (w.alloc (.cells #[.string k.a, .string k.b, .string k.c, .string k.d, .string k.e, .string k.f] 86 (0, 0))).drew.cell? ⟨b, 7, none⟩ = some (.pointer r.ad) ∧ (w.alloc (.cells #[.string k.a, .string k.b, .string k.c, .string k.d, .string k.e, .string k.f] 86 (0, 0))).drew.cell? ⟨w.heap.size, 0, none⟩ = some (.string k.a) ∧ (w.alloc (.cells #[.string k.a, .string k.b, .string k.c, .string k.d, .string k.e, .string k.f] 86 (0, 0))).drew.cell? ⟨w.heap.size, 1, none⟩ = some (.string k.b) ∧ (w.alloc (.cells #[.string k.a, .string k.b, .string k.c, .string k.d, .string k.e, .string k.f] 86 (0, 0))).drew.cell? ⟨w.heap.size, 2, none⟩ = some (.string k.c) ∧ (w.alloc (.cells #[.string k.a, .string k.b, .string k.c, .string k.d, .string k.e, .string k.f] 86 (0, 0))).drew.cell? ⟨w.heap.size, 3, none⟩ = some (.string k.d) ∧ (w.alloc (.cells #[.string k.a, .string k.b, .string k.c, .string k.d, .string k.e, .string k.f] 86 (0, 0))).drew.cell? ⟨w.heap.size, 4, none⟩ = some (.string k.e) ∧ (w.alloc (.cells #[.string k.a, .string k.b, .string k.c, .string k.d, .string k.e, .string k.f] 86 (0, 0))).drew.cell? ⟨w.heap.size, 5, none⟩ = some (.string k.f)) := hid (join6 h4 hbx)
    obtain ⟨-, -, -, -, -, -, s6, s7⟩ := h4
    have HL := hid (hT.left.below hA)
    have HR := hid (hT.right.below hA)
    have HA := hid hA
    have HIL := hid ihl
    have HIR := hid ihr
    by_cases hc : i ≤ l.sz
    · have c1 : (i : Int) ≤ (l.sz : Int) := by omega
      have HC := hid hc
      clear hc hT hs hs0 hB hi ihl ihr hA hbx
      show Calls _ _ #[.pointer (some ⟨b, 0, none⟩), _, _] _ _
      go_enter Tryz.func74, Tryz.ntmps74
      go_wp2_with fail
      refine (count_any l _ HL.out).mono ?_
      rintro _ _ ⟨rfl, rfl⟩
      generalize hW : (w.alloc (.cells #[.string k.a, .string k.b, .string k.c, .string k.d, .string k.e, .string k.f] 86 (0, 0))) = W1 at *
      generalize hq : w.heap.size = q at *
      have HE := hid hq
      clear hW hq
      go_wp2_with fail
      have hS := HSS.out
      clear HSS
      have HLX : Hid (Lies W1.drew l) := hid (HL.out.below (g_drew g_refl))
      have HRX : Hid (Lies W1.drew r) := hid (HR.out.below (g_drew g_refl))
      go_region_held3 (fun w' => w'.cell? ⟨b, 0, none⟩ = some (.string k0.a) ∧ w'.cell? ⟨b, 1, none⟩ = some (.string k0.b) ∧ w'.cell? ⟨b, 2, none⟩ = some (.string k0.c) ∧ w'.cell? ⟨b, 3, none⟩ = some (.string k0.d) ∧ w'.cell? ⟨b, 4, none⟩ = some (.string k0.e) ∧ w'.cell? ⟨b, 5, none⟩ = some (.string k0.f) ∧ w'.cell? ⟨b, 6, none⟩ = some (.pointer l.ad) ∧ w'.cell? ⟨b, 7, none⟩ = some (.pointer r.ad) ∧ w'.cell? ⟨q, 0, none⟩ = some (.string k.a) ∧ w'.cell? ⟨q, 1, none⟩ = some (.string k.b) ∧ w'.cell? ⟨q, 2, none⟩ = some (.string k.c) ∧ w'.cell? ⟨q, 3, none⟩ = some (.string k.d) ∧ w'.cell? ⟨q, 4, none⟩ = some (.string k.e) ∧ w'.cell? ⟨q, 5, none⟩ = some (.string k.f)) (first | with_reducible assumption | exact keep14 (by with_reducible assumption) (by with_reducible assumption))
        (first | (go_at_call 86; (with_reducible refine Calls.mono (balance_any _ _ _ _ hT1 (HRX.out.below hb1) ?_ hbl1 HB.out.2.1 ?_ ?_) ?_); (rw [hp1.sz]; have := HS.out; omega); (have h1 := HB.out.2.2; have h2 := hp1.2.2; omega); (have h1 := HB.out.2.2; have h2 := hp1.2.2; omega); rintro _ w2 ⟨T2, rfl, hT2, hp2, hb2⟩) | (go_at_call 74; (with_reducible refine Calls.mono (HIL.out i k _ HLX.out ?_ ?_ ?_) ?_); (· exact HB.out.1); (· have := HS.out; omega); (· exact HC.out); rintro _ w1 ⟨T1, rfl, hT1, hp1, hb1⟩; have hbl1 : T1.Bal := hp1.2.1))
      all_goals go_wp2
      all_goals go_ret
      all_goals
        exact ⟨_, rfl, hT2, ins_pl HB.out HC.out hp1 hp2, (by have h := HE.out; subst h; exact g_trans (g_trans (g_drew HA.out) hb1) hb2)⟩
    · have c1 : (l.sz : Int) < (i : Int) := by omega
      replace hc : l.sz < i := by omega
      have HC := hid hc
      have e1 : IntKind.i64.wrap ((i : Int) - (l.sz : Int)) = ((i - l.sz - 1 : Nat) : Int) + 1 := by rw [wrp (by omega) (by omega)]; omega
      obtain ⟨x, hx⟩ : ∃ x : Int, ((i - l.sz - 1 : Nat) : Int) + 1 = x := ⟨_, rfl⟩
      have e2 : IntKind.i64.wrap (x - 1) = ((i - l.sz - 1 : Nat) : Int) := by rw [wrp (by omega) (by omega)]; omega
      rw [hx] at e1
      clear hx hc hT hs hs0 hB hi ihl ihr hA hbx
      show Calls _ _ #[.pointer (some ⟨b, 0, none⟩), _, _] _ _
      go_enter Tryz.func74, Tryz.ntmps74
      go_wp2_with fail
      refine (count_any l _ HL.out).mono ?_
      rintro _ _ ⟨rfl, rfl⟩
      generalize hW : (w.alloc (.cells #[.string k.a, .string k.b, .string k.c, .string k.d, .string k.e, .string k.f] 86 (0, 0))) = W1 at *
      generalize hq : w.heap.size = q at *
      have HE := hid hq
      clear hW hq
      go_wp2_with fail
      have hS := HSS.out
      clear HSS
      have HLX : Hid (Lies W1.drew l) := hid (HL.out.below (g_drew g_refl))
      have HRX : Hid (Lies W1.drew r) := hid (HR.out.below (g_drew g_refl))
      go_region_held3 (fun w' => w'.cell? ⟨b, 0, none⟩ = some (.string k0.a) ∧ w'.cell? ⟨b, 1, none⟩ = some (.string k0.b) ∧ w'.cell? ⟨b, 2, none⟩ = some (.string k0.c) ∧ w'.cell? ⟨b, 3, none⟩ = some (.string k0.d) ∧ w'.cell? ⟨b, 4, none⟩ = some (.string k0.e) ∧ w'.cell? ⟨b, 5, none⟩ = some (.string k0.f) ∧ w'.cell? ⟨b, 6, none⟩ = some (.pointer l.ad) ∧ w'.cell? ⟨b, 7, none⟩ = some (.pointer r.ad) ∧ w'.cell? ⟨q, 0, none⟩ = some (.string k.a) ∧ w'.cell? ⟨q, 1, none⟩ = some (.string k.b) ∧ w'.cell? ⟨q, 2, none⟩ = some (.string k.c) ∧ w'.cell? ⟨q, 3, none⟩ = some (.string k.d) ∧ w'.cell? ⟨q, 4, none⟩ = some (.string k.e) ∧ w'.cell? ⟨q, 5, none⟩ = some (.string k.f)) (first | with_reducible assumption | exact keep14 (by with_reducible assumption) (by with_reducible assumption))
        (first | (go_at_call 86; (with_reducible refine Calls.mono (balance_any _ _ _ _ (HLX.out.below hb1) hT1 ?_ HB.out.1 hbl1 ?_ ?_) ?_); (rw [hp1.sz]; have := HS.out; omega); (have h1 := HB.out.2.2; have h2 := hp1.2.2; omega); (have h1 := HB.out.2.2; have h2 := hp1.2.2; omega); rintro _ w2 ⟨T2, rfl, hT2, hp2, hb2⟩) | (go_at_call 74; (with_reducible refine Calls.mono (HIR.out (i - l.sz - 1) k _ HRX.out ?_ ?_ ?_) ?_); (· exact HB.out.2.1); (· have := HS.out; omega); (· have h1 := HC.out; have h2 := HI.out; omega); rintro _ w1 ⟨T1, rfl, hT1, hp1, hb1⟩; have hbl1 : T1.Bal := hp1.2.1))
      all_goals go_wp2
      all_goals go_ret
      all_goals
        exact ⟨_, rfl, hT2, ins_pr HB.out HC.out hp1 hp2, (by have h := HE.out; subst h; exact g_trans (g_trans (g_drew HA.out) hb1) hb2)⟩

end Go.Proofs.YtgfgfggoofjeeaaGreat.DT
