/-
  THE CONTRACT of balance (keys: tuples, no values).
-/
import Derived.Test.YtgfgfggoofjeeaaGreatDTNode
namespace Go.Proofs.YtgfgfggoofjeeaaGreat.DT
open Go.RowKit Go.Deep

theorem keep14 {a b : World} {p0 p1 p2 p3 p4 p5 p6 p7 p8 p9 p10 p11 p12 p13 o0 o1 o2 o3 o4 o5 o6 o7 o8 o9 o10 o11 o12 o13 : Nat} {x0 x1 x2 x3 x4 x5 x6 x7 x8 x9 x10 x11 x12 x13 : Value} (h : Below a.heap.size a b)
    (s : a.cell? ⟨p0, o0, none⟩ = some x0 ∧ a.cell? ⟨p1, o1, none⟩ = some x1 ∧ a.cell? ⟨p2, o2, none⟩ = some x2 ∧ a.cell? ⟨p3, o3, none⟩ = some x3 ∧ a.cell? ⟨p4, o4, none⟩ = some x4 ∧ a.cell? ⟨p5, o5, none⟩ = some x5 ∧ a.cell? ⟨p6, o6, none⟩ = some x6 ∧ a.cell? ⟨p7, o7, none⟩ = some x7 ∧ a.cell? ⟨p8, o8, none⟩ = some x8 ∧ a.cell? ⟨p9, o9, none⟩ = some x9 ∧ a.cell? ⟨p10, o10, none⟩ = some x10 ∧ a.cell? ⟨p11, o11, none⟩ = some x11 ∧ a.cell? ⟨p12, o12, none⟩ = some x12 ∧ a.cell? ⟨p13, o13, none⟩ = some x13) :
    b.cell? ⟨p0, o0, none⟩ = some x0 ∧ b.cell? ⟨p1, o1, none⟩ = some x1 ∧ b.cell? ⟨p2, o2, none⟩ = some x2 ∧ b.cell? ⟨p3, o3, none⟩ = some x3 ∧ b.cell? ⟨p4, o4, none⟩ = some x4 ∧ b.cell? ⟨p5, o5, none⟩ = some x5 ∧ b.cell? ⟨p6, o6, none⟩ = some x6 ∧ b.cell? ⟨p7, o7, none⟩ = some x7 ∧ b.cell? ⟨p8, o8, none⟩ = some x8 ∧ b.cell? ⟨p9, o9, none⟩ = some x9 ∧ b.cell? ⟨p10, o10, none⟩ = some x10 ∧ b.cell? ⟨p11, o11, none⟩ = some x11 ∧ b.cell? ⟨p12, o12, none⟩ = some x12 ∧ b.cell? ⟨p13, o13, none⟩ = some x13 :=
  ⟨keep1 h s.1, keep1 h s.2.1, keep1 h s.2.2.1, keep1 h s.2.2.2.1, keep1 h s.2.2.2.2.1, keep1 h s.2.2.2.2.2.1, keep1 h s.2.2.2.2.2.2.1, keep1 h s.2.2.2.2.2.2.2.1, keep1 h s.2.2.2.2.2.2.2.2.1, keep1 h s.2.2.2.2.2.2.2.2.2.1, keep1 h s.2.2.2.2.2.2.2.2.2.2.1, keep1 h s.2.2.2.2.2.2.2.2.2.2.2.1, keep1 h s.2.2.2.2.2.2.2.2.2.2.2.2.1, keep1 h s.2.2.2.2.2.2.2.2.2.2.2.2.2⟩
theorem keep22 {a b : World} {p0 p1 p2 p3 p4 p5 p6 p7 p8 p9 p10 p11 p12 p13 p14 p15 p16 p17 p18 p19 p20 p21 o0 o1 o2 o3 o4 o5 o6 o7 o8 o9 o10 o11 o12 o13 o14 o15 o16 o17 o18 o19 o20 o21 : Nat} {x0 x1 x2 x3 x4 x5 x6 x7 x8 x9 x10 x11 x12 x13 x14 x15 x16 x17 x18 x19 x20 x21 : Value} (h : Below a.heap.size a b)
    (s : a.cell? ⟨p0, o0, none⟩ = some x0 ∧ a.cell? ⟨p1, o1, none⟩ = some x1 ∧ a.cell? ⟨p2, o2, none⟩ = some x2 ∧ a.cell? ⟨p3, o3, none⟩ = some x3 ∧ a.cell? ⟨p4, o4, none⟩ = some x4 ∧ a.cell? ⟨p5, o5, none⟩ = some x5 ∧ a.cell? ⟨p6, o6, none⟩ = some x6 ∧ a.cell? ⟨p7, o7, none⟩ = some x7 ∧ a.cell? ⟨p8, o8, none⟩ = some x8 ∧ a.cell? ⟨p9, o9, none⟩ = some x9 ∧ a.cell? ⟨p10, o10, none⟩ = some x10 ∧ a.cell? ⟨p11, o11, none⟩ = some x11 ∧ a.cell? ⟨p12, o12, none⟩ = some x12 ∧ a.cell? ⟨p13, o13, none⟩ = some x13 ∧ a.cell? ⟨p14, o14, none⟩ = some x14 ∧ a.cell? ⟨p15, o15, none⟩ = some x15 ∧ a.cell? ⟨p16, o16, none⟩ = some x16 ∧ a.cell? ⟨p17, o17, none⟩ = some x17 ∧ a.cell? ⟨p18, o18, none⟩ = some x18 ∧ a.cell? ⟨p19, o19, none⟩ = some x19 ∧ a.cell? ⟨p20, o20, none⟩ = some x20 ∧ a.cell? ⟨p21, o21, none⟩ = some x21) :
    b.cell? ⟨p0, o0, none⟩ = some x0 ∧ b.cell? ⟨p1, o1, none⟩ = some x1 ∧ b.cell? ⟨p2, o2, none⟩ = some x2 ∧ b.cell? ⟨p3, o3, none⟩ = some x3 ∧ b.cell? ⟨p4, o4, none⟩ = some x4 ∧ b.cell? ⟨p5, o5, none⟩ = some x5 ∧ b.cell? ⟨p6, o6, none⟩ = some x6 ∧ b.cell? ⟨p7, o7, none⟩ = some x7 ∧ b.cell? ⟨p8, o8, none⟩ = some x8 ∧ b.cell? ⟨p9, o9, none⟩ = some x9 ∧ b.cell? ⟨p10, o10, none⟩ = some x10 ∧ b.cell? ⟨p11, o11, none⟩ = some x11 ∧ b.cell? ⟨p12, o12, none⟩ = some x12 ∧ b.cell? ⟨p13, o13, none⟩ = some x13 ∧ b.cell? ⟨p14, o14, none⟩ = some x14 ∧ b.cell? ⟨p15, o15, none⟩ = some x15 ∧ b.cell? ⟨p16, o16, none⟩ = some x16 ∧ b.cell? ⟨p17, o17, none⟩ = some x17 ∧ b.cell? ⟨p18, o18, none⟩ = some x18 ∧ b.cell? ⟨p19, o19, none⟩ = some x19 ∧ b.cell? ⟨p20, o20, none⟩ = some x20 ∧ b.cell? ⟨p21, o21, none⟩ = some x21 :=
  ⟨keep1 h s.1, keep1 h s.2.1, keep1 h s.2.2.1, keep1 h s.2.2.2.1, keep1 h s.2.2.2.2.1, keep1 h s.2.2.2.2.2.1, keep1 h s.2.2.2.2.2.2.1, keep1 h s.2.2.2.2.2.2.2.1, keep1 h s.2.2.2.2.2.2.2.2.1, keep1 h s.2.2.2.2.2.2.2.2.2.1, keep1 h s.2.2.2.2.2.2.2.2.2.2.1, keep1 h s.2.2.2.2.2.2.2.2.2.2.2.1, keep1 h s.2.2.2.2.2.2.2.2.2.2.2.2.1, keep1 h s.2.2.2.2.2.2.2.2.2.2.2.2.2.1, keep1 h s.2.2.2.2.2.2.2.2.2.2.2.2.2.2.1, keep1 h s.2.2.2.2.2.2.2.2.2.2.2.2.2.2.2.1, keep1 h s.2.2.2.2.2.2.2.2.2.2.2.2.2.2.2.2.1, keep1 h s.2.2.2.2.2.2.2.2.2.2.2.2.2.2.2.2.2.1, keep1 h s.2.2.2.2.2.2.2.2.2.2.2.2.2.2.2.2.2.2.1, keep1 h s.2.2.2.2.2.2.2.2.2.2.2.2.2.2.2.2.2.2.2.1, keep1 h s.2.2.2.2.2.2.2.2.2.2.2.2.2.2.2.2.2.2.2.2.1, keep1 h s.2.2.2.2.2.2.2.2.2.2.2.2.2.2.2.2.2.2.2.2.2⟩

/-- what balance gives -/
def BalP (L : Tr) (k : Tup) (R : Tr) (T : Tr) : Prop :=
  T.li = L.li ++ k :: R.li ∧ T.Bal ∧ max L.dp R.dp ≤ T.dp ∧ T.dp ≤ max L.dp R.dp + 1 ∧ (L.dp ≤ R.dp + 1 → R.dp ≤ L.dp + 1 → T.dp = max L.dp R.dp + 1)

theorem balp_c {L R : Tr} {k : Tup} {b : Nat} (h1 : L.Bal) (h2 : R.Bal) (h3 : L.dp ≤ R.dp + 1) (h4 : R.dp ≤ L.dp + 1) : BalP L k R (.node b L k R) :=
  ⟨rfl, ⟨h1, h2, h3, h4⟩, by rw [Tr.dp_node]; omega, by rw [Tr.dp_node]; omega, fun _ _ => rfl⟩
theorem balp_a1 {ll lr R : Tr} {bl b1 b2 : Nat} {lk k : Tup} (h1 : (Tr.node bl ll lk lr).Bal) (h2 : R.Bal) (h3 : (Tr.node bl ll lk lr).dp = R.dp + 2) (h4 : lr.dp ≤ ll.dp) :
    BalP (.node bl ll lk lr) k R (.node b2 ll lk (.node b1 lr k R)) := by
  rw [Tr.bal_node] at h1
  rw [Tr.dp_node] at h3
  refine ⟨by simp [Tr.li_node], ?_, ?_, ?_, ?_⟩
  · rw [Tr.bal_node, Tr.bal_node, Tr.dp_node]
    refine ⟨h1.1, ⟨h1.2.1, h2, ?_, ?_⟩, ?_, ?_⟩ <;> omega
  all_goals (simp only [Tr.dp_node]; omega)
theorem balp_a2 {ll ml mr R : Tr} {bl bm b1 b2 b3 : Nat} {lk k mk : Tup} (h1 : (Tr.node bl ll lk (.node bm ml mk mr)).Bal) (h2 : R.Bal) (h3 : (Tr.node bl ll lk (.node bm ml mk mr)).dp = R.dp + 2) (h4 : ll.dp < (Tr.node bm ml mk mr).dp) :
    BalP (.node bl ll lk (.node bm ml mk mr)) k R (.node b3 (.node b1 ll lk ml) mk (.node b2 mr k R)) := by
  rw [Tr.bal_node, Tr.bal_node, Tr.dp_node] at h1
  simp only [Tr.dp_node] at h3 h4
  refine ⟨by simp [Tr.li_node], ?_, ?_, ?_, ?_⟩
  · simp only [Tr.bal_node, Tr.dp_node]
    refine ⟨⟨h1.1, h1.2.1.1, ?_, ?_⟩, ⟨h1.2.1.2.1, h2, ?_, ?_⟩, ?_, ?_⟩ <;> omega
  all_goals (simp only [Tr.dp_node]; omega)
theorem balp_b1 {L rl rr : Tr} {br b1 b2 : Nat} {rk k : Tup} (h1 : L.Bal) (h2 : (Tr.node br rl rk rr).Bal) (h3 : (Tr.node br rl rk rr).dp = L.dp + 2) (h4 : rl.dp ≤ rr.dp) :
    BalP L k (.node br rl rk rr) (.node b2 (.node b1 L k rl) rk rr) := by
  rw [Tr.bal_node] at h2
  rw [Tr.dp_node] at h3
  refine ⟨by simp [Tr.li_node], ?_, ?_, ?_, ?_⟩
  · rw [Tr.bal_node, Tr.bal_node, Tr.dp_node]
    refine ⟨⟨h1, h2.1, ?_, ?_⟩, h2.2.1, ?_, ?_⟩ <;> omega
  all_goals (simp only [Tr.dp_node]; omega)
theorem balp_b2 {L ml mr rr : Tr} {br bm b1 b2 b3 : Nat} {rk k mk : Tup} (h1 : L.Bal) (h2 : (Tr.node br (.node bm ml mk mr) rk rr).Bal) (h3 : (Tr.node br (.node bm ml mk mr) rk rr).dp = L.dp + 2) (h4 : rr.dp < (Tr.node bm ml mk mr).dp) :
    BalP L k (.node br (.node bm ml mk mr) rk rr) (.node b3 (.node b1 L k ml) mk (.node b2 mr rk rr)) := by
  rw [Tr.bal_node, Tr.bal_node, Tr.dp_node] at h2
  simp only [Tr.dp_node] at h3 h4
  refine ⟨by simp [Tr.li_node], ?_, ?_, ?_, ?_⟩
  · simp only [Tr.bal_node, Tr.dp_node]
    refine ⟨⟨h1, h2.1.1, ?_, ?_⟩, ⟨h2.1.2.1, h2.2.1, ?_, ?_⟩, ?_, ?_⟩ <;> omega
  all_goals (simp only [Tr.dp_node]; omega)

set_option maxRecDepth 20000 in
set_option maxHeartbeats 2000000 in
theorem bal_a1 (ll R lr : Tr) (bl : Nat) (lk k : Tup) (w : World) (hl : Lies w (Tr.node bl ll lk lr)) (hr : Lies w R) (hs : ll.sz + R.sz + lr.sz ≤ 5000000)
    (h1 : (Tr.node bl ll lk lr).Bal) (h2 : R.Bal) (h3 : (Tr.node bl ll lk lr).dp = R.dp + 2) (h4 : lr.dp ≤ ll.dp) :
    Calls Tryz.prog 86 #[.pointer (some ⟨bl, 0, none⟩), .agg #[.string k.a, .string k.b, .string k.c, .string k.d, .string k.e, .string k.f], .pointer R.ad] w (Gives w (BalP (Tr.node bl ll lk lr) k R)) := by
  have HP := hid (fun b1 b2 => balp_a1 (k := k) (b1 := b1) (b2 := b2) h1 h2 h3 h4)
  have hB : Below w.heap.size w (w.alloc (.cells #[.string k.a, .string k.b, .string k.c, .string k.d, .string k.e, .string k.f] 86)) := g_alloc g_refl _
  have HL := hid (hl.below hB)
  have HR := hid (hr.below hB)
  have HB := hid hB
  have d2 := R.dp_sz
  have HS := hid hs
  obtain ⟨d, hd⟩ : ∃ d, R.dp = d := ⟨_, rfl⟩
  obtain ⟨x, hx⟩ : ∃ x, ll.dp = x := ⟨_, rfl⟩
  obtain ⟨y, hy⟩ : ∃ y, lr.dp = y := ⟨_, rfl⟩
  have q1 : (0 : Int) ≤ (d : Int) := by omega
  have q2 : (d : Int) ≤ 5000000 := by omega
  have q3 : (d : Int) + 2 - (d : Int) = 2 := by omega
  have q4 : (y : Int) ≤ (x : Int) := by omega
  have HLd := hid (fun W (h : Lies W (Tr.node bl ll lk lr)) => show Calls Tryz.prog 96 #[.pointer (some ⟨bl, 0, none⟩)] W fun e w' => e = .returned (.int .i64 ((d : Int) + 2)) ∧ w' = W by have q := levels_any _ W h; rw [show ((Tr.node bl ll lk lr).dp : Int) = ((d : Int) + 2) by omega] at q; exact q)
  have HRd := hid (fun W (h : Lies W R) => show Calls Tryz.prog 96 #[.pointer R.ad] W fun e w' => e = .returned (.int .i64 (d : Int)) ∧ w' = W by have q := levels_any _ W h; rw [show (R.dp : Int) = (d : Int) by omega] at q; exact q)
  have Hnd := hid (fun W (h : Lies W ll) => show Calls Tryz.prog 96 #[.pointer ll.ad] W fun e w' => e = .returned (.int .i64 (x : Int)) ∧ w' = W by have q := levels_any _ W h; rw [show (ll.dp : Int) = (x : Int) by omega] at q; exact q)
  have Hfd := hid (fun W (h : Lies W lr) => show Calls Tryz.prog 96 #[.pointer lr.ad] W fun e w' => e = .returned (.int .i64 (y : Int)) ∧ w' = W by have q := levels_any _ W h; rw [show (lr.dp : Int) = (y : Int) by omega] at q; exact q)
  clear hl hr hs hB d2 h1 h2 h3 h4 hd hx hy
  go_enter Tryz.func86, Tryz.ntmps86
  go_wp2_with fail
  have hbx := box6 w k 86
  generalize hW : (w.alloc (.cells #[.string k.a, .string k.b, .string k.c, .string k.d, .string k.e, .string k.f] 86)) = W1 at *
  generalize hq : w.heap.size = q at *
  have HE := hid hq
  obtain ⟨s0, s1, s2, s3, s4, s5, s6, s7, s8, s9⟩ := HL.out.six
  have hS : W1.cell? ⟨bl, 0, none⟩ = some (.string lk.a) ∧ W1.cell? ⟨bl, 1, none⟩ = some (.string lk.b) ∧ W1.cell? ⟨bl, 2, none⟩ = some (.string lk.c) ∧ W1.cell? ⟨bl, 3, none⟩ = some (.string lk.d) ∧ W1.cell? ⟨bl, 4, none⟩ = some (.string lk.e) ∧ W1.cell? ⟨bl, 5, none⟩ = some (.string lk.f) ∧ W1.cell? ⟨bl, 6, none⟩ = some (.pointer ll.ad) ∧ W1.cell? ⟨bl, 7, none⟩ = some (.pointer lr.ad) ∧ W1.cell? ⟨q, 0, none⟩ = some (.string k.a) ∧ W1.cell? ⟨q, 1, none⟩ = some (.string k.b) ∧ W1.cell? ⟨q, 2, none⟩ = some (.string k.c) ∧ W1.cell? ⟨q, 3, none⟩ = some (.string k.d) ∧ W1.cell? ⟨q, 4, none⟩ = some (.string k.e) ∧ W1.cell? ⟨q, 5, none⟩ = some (.string k.f) := ⟨s0, s1, s2, s3, s4, s5, s6, s7, hbx⟩
  have HS0 := hid hS
  clear hW hq s0 s1 s2 s3 s4 s5 s8 s9 hbx hS
  refine (HLd.out _ HL.out).mono ?_
  rintro _ W2 ⟨rfl, rfl⟩
  go_wp2_with fail
  refine (HRd.out _ HR.out).mono ?_
  rintro _ W3 ⟨rfl, rfl⟩
  go_wp2_with fail
  go_quiet (first | (go_at_call_of 96 ll; refine Calls.quiet_of_same (Hnd.out _ ?_); exact (Lies.below (g_drewN g_refl _) HL.out.2.1)) | (go_at_call_of 96 lr; refine Calls.quiet_of_same (Hfd.out _ ?_); exact (Lies.below (g_drewN g_refl _) HL.out.2.2)))
  go_wp2_with fail
  have HA := hid (Lies.below (g_drew (g_drewN g_refl nq)) (HL.out.2.1))
  have HC := hid (Lies.below (g_drew (g_drewN g_refl nq)) (HL.out.2.2))
  have HO := hid (HR.out.below (g_drew (g_drewN g_refl nq)))
  have hS := keep14 (g_drew (g_drewN g_refl nq)) HS0.out
  have HB3 : Hid (Below q w (W3.drewN nq).drew) := hid (by have h := HE.out; subst h; exact g_trans HB.out (g_drew (g_drewN g_refl nq)))
  clear HL HR HS0 HB s6 s7
  generalize hX : W3.drewN nq = X at *
  clear hX
  go_region_held3 (fun w' => w'.cell? ⟨bl, 0, none⟩ = some (.string lk.a) ∧ w'.cell? ⟨bl, 1, none⟩ = some (.string lk.b) ∧ w'.cell? ⟨bl, 2, none⟩ = some (.string lk.c) ∧ w'.cell? ⟨bl, 3, none⟩ = some (.string lk.d) ∧ w'.cell? ⟨bl, 4, none⟩ = some (.string lk.e) ∧ w'.cell? ⟨bl, 5, none⟩ = some (.string lk.f) ∧ w'.cell? ⟨bl, 6, none⟩ = some (.pointer ll.ad) ∧ w'.cell? ⟨bl, 7, none⟩ = some (.pointer lr.ad) ∧ w'.cell? ⟨q, 0, none⟩ = some (.string k.a) ∧ w'.cell? ⟨q, 1, none⟩ = some (.string k.b) ∧ w'.cell? ⟨q, 2, none⟩ = some (.string k.c) ∧ w'.cell? ⟨q, 3, none⟩ = some (.string k.d) ∧ w'.cell? ⟨q, 4, none⟩ = some (.string k.e) ∧ w'.cell? ⟨q, 5, none⟩ = some (.string k.f)) (first | with_reducible assumption | exact keep14 (by with_reducible assumption) (by with_reducible assumption))
    (first | (go_at_call_of 88 lk; (with_reducible refine Calls.mono (tree_any _ _ _ _ (HA.out.below hb1) (hT1) ?_) ?_); (obtain ⟨_, e1⟩ := hp1; rw [e1, Tr.sz_node]; have := HS.out; omega); rintro _ w2 ⟨T2, rfl, hT2, hp2, hb2⟩) | (go_at_call_of 88 k; (with_reducible refine Calls.mono (tree_any _ _ _ _ (HC.out) (HO.out) ?_) ?_); (have := HS.out; omega); rintro _ w1 ⟨T1, rfl, hT1, hp1, hb1⟩))
  all_goals go_wp2
  all_goals go_ret
  all_goals
    obtain ⟨_, rfl⟩ := hp1
    obtain ⟨_, rfl⟩ := hp2
    have h := HE.out
    subst h
    exact ⟨_, rfl, hT2, HP.out _ _, g_trans (g_trans HB3.out hb1) hb2⟩

set_option maxRecDepth 20000 in
set_option maxHeartbeats 2000000 in
theorem bal_a2 (ll R ml mr : Tr) (bl bm : Nat) (lk k mk : Tup) (w : World) (hl : Lies w (Tr.node bl ll lk (Tr.node bm ml mk mr))) (hr : Lies w R) (hs : ll.sz + R.sz + ml.sz + mr.sz ≤ 5000000)
    (h1 : (Tr.node bl ll lk (Tr.node bm ml mk mr)).Bal) (h2 : R.Bal) (h3 : (Tr.node bl ll lk (Tr.node bm ml mk mr)).dp = R.dp + 2) (h4 : ll.dp < (Tr.node bm ml mk mr).dp) :
    Calls Tryz.prog 86 #[.pointer (some ⟨bl, 0, none⟩), .agg #[.string k.a, .string k.b, .string k.c, .string k.d, .string k.e, .string k.f], .pointer R.ad] w (Gives w (BalP (Tr.node bl ll lk (Tr.node bm ml mk mr)) k R)) := by
  have HP := hid (fun b1 b2 b3 => balp_a2 (k := k) (b1 := b1) (b2 := b2) (b3 := b3) h1 h2 h3 h4)
  have hB : Below w.heap.size w (w.alloc (.cells #[.string k.a, .string k.b, .string k.c, .string k.d, .string k.e, .string k.f] 86)) := g_alloc g_refl _
  have HL := hid (hl.below hB)
  have HR := hid (hr.below hB)
  have HB := hid hB
  have d2 := R.dp_sz
  have HS := hid hs
  obtain ⟨d, hd⟩ : ∃ d, R.dp = d := ⟨_, rfl⟩
  obtain ⟨x, hx⟩ : ∃ x, ll.dp = x := ⟨_, rfl⟩
  obtain ⟨y, hy⟩ : ∃ y, (Tr.node bm ml mk mr).dp = y := ⟨_, rfl⟩
  have q1 : (0 : Int) ≤ (d : Int) := by omega
  have q2 : (d : Int) ≤ 5000000 := by omega
  have q3 : (d : Int) + 2 - (d : Int) = 2 := by omega
  have q4 : (x : Int) < (y : Int) := by omega
  have HLd := hid (fun W (h : Lies W (Tr.node bl ll lk (Tr.node bm ml mk mr))) => show Calls Tryz.prog 96 #[.pointer (some ⟨bl, 0, none⟩)] W fun e w' => e = .returned (.int .i64 ((d : Int) + 2)) ∧ w' = W by have q := levels_any _ W h; rw [show ((Tr.node bl ll lk (Tr.node bm ml mk mr)).dp : Int) = ((d : Int) + 2) by omega] at q; exact q)
  have HRd := hid (fun W (h : Lies W R) => show Calls Tryz.prog 96 #[.pointer R.ad] W fun e w' => e = .returned (.int .i64 (d : Int)) ∧ w' = W by have q := levels_any _ W h; rw [show (R.dp : Int) = (d : Int) by omega] at q; exact q)
  have Hnd := hid (fun W (h : Lies W ll) => show Calls Tryz.prog 96 #[.pointer ll.ad] W fun e w' => e = .returned (.int .i64 (x : Int)) ∧ w' = W by have q := levels_any _ W h; rw [show (ll.dp : Int) = (x : Int) by omega] at q; exact q)
  have Hfd := hid (fun W (h : Lies W (Tr.node bm ml mk mr)) => show Calls Tryz.prog 96 #[.pointer (some ⟨bm, 0, none⟩)] W fun e w' => e = .returned (.int .i64 (y : Int)) ∧ w' = W by have q := levels_any _ W h; rw [show ((Tr.node bm ml mk mr).dp : Int) = (y : Int) by omega] at q; exact q)
  clear hl hr hs hB d2 h1 h2 h3 h4 hd hx hy
  go_enter Tryz.func86, Tryz.ntmps86
  go_wp2_with fail
  have hbx := box6 w k 86
  generalize hW : (w.alloc (.cells #[.string k.a, .string k.b, .string k.c, .string k.d, .string k.e, .string k.f] 86)) = W1 at *
  generalize hq : w.heap.size = q at *
  have HE := hid hq
  obtain ⟨s0, s1, s2, s3, s4, s5, s6, s7, s8, s9⟩ := HL.out.six
  replace s7 : W1.cell? ⟨bl, 7, none⟩ = some (.pointer (some ⟨bm, 0, none⟩)) := s7
  obtain ⟨m0, m1, m2, m3, m4, m5, m6, m7, m8, m9⟩ := Lies.six HL.out.2.2
  have hS : W1.cell? ⟨bl, 0, none⟩ = some (.string lk.a) ∧ W1.cell? ⟨bl, 1, none⟩ = some (.string lk.b) ∧ W1.cell? ⟨bl, 2, none⟩ = some (.string lk.c) ∧ W1.cell? ⟨bl, 3, none⟩ = some (.string lk.d) ∧ W1.cell? ⟨bl, 4, none⟩ = some (.string lk.e) ∧ W1.cell? ⟨bl, 5, none⟩ = some (.string lk.f) ∧ W1.cell? ⟨bl, 6, none⟩ = some (.pointer ll.ad) ∧ W1.cell? ⟨bl, 7, none⟩ = some (.pointer (some ⟨bm, 0, none⟩)) ∧ W1.cell? ⟨bm, 0, none⟩ = some (.string mk.a) ∧ W1.cell? ⟨bm, 1, none⟩ = some (.string mk.b) ∧ W1.cell? ⟨bm, 2, none⟩ = some (.string mk.c) ∧ W1.cell? ⟨bm, 3, none⟩ = some (.string mk.d) ∧ W1.cell? ⟨bm, 4, none⟩ = some (.string mk.e) ∧ W1.cell? ⟨bm, 5, none⟩ = some (.string mk.f) ∧ W1.cell? ⟨bm, 6, none⟩ = some (.pointer ml.ad) ∧ W1.cell? ⟨bm, 7, none⟩ = some (.pointer mr.ad) ∧ W1.cell? ⟨q, 0, none⟩ = some (.string k.a) ∧ W1.cell? ⟨q, 1, none⟩ = some (.string k.b) ∧ W1.cell? ⟨q, 2, none⟩ = some (.string k.c) ∧ W1.cell? ⟨q, 3, none⟩ = some (.string k.d) ∧ W1.cell? ⟨q, 4, none⟩ = some (.string k.e) ∧ W1.cell? ⟨q, 5, none⟩ = some (.string k.f) := ⟨s0, s1, s2, s3, s4, s5, s6, s7, m0, m1, m2, m3, m4, m5, m6, m7, hbx⟩
  have HS0 := hid hS
  clear hW hq s0 s1 s2 s3 s4 s5 s8 s9 hbx hS m0 m1 m2 m3 m4 m5 m6 m7 m8 m9
  refine (HLd.out _ HL.out).mono ?_
  rintro _ W2 ⟨rfl, rfl⟩
  go_wp2_with fail
  refine (HRd.out _ HR.out).mono ?_
  rintro _ W3 ⟨rfl, rfl⟩
  go_wp2_with fail
  go_quiet (first | (go_at_call_of 96 ll; refine Calls.quiet_of_same (Hnd.out _ ?_); exact (Lies.below (g_drewN g_refl _) HL.out.2.1)) | (go_at_call_of 96 bm; refine Calls.quiet_of_same (Hfd.out _ ?_); exact (Lies.below (g_drewN g_refl _) HL.out.2.2)))
  go_wp2_with fail
  have HA := hid (Lies.below (g_drew (g_drewN g_refl nq)) (HL.out.2.1))
  have HM := hid (Lies.below (g_drew (g_drewN g_refl nq)) (Lies.left (HL.out.2.2)))
  have HN := hid (Lies.below (g_drew (g_drewN g_refl nq)) (Lies.right (HL.out.2.2)))
  have HO := hid (HR.out.below (g_drew (g_drewN g_refl nq)))
  have hS := keep22 (g_drew (g_drewN g_refl nq)) HS0.out
  have HB3 : Hid (Below q w (W3.drewN nq).drew) := hid (by have h := HE.out; subst h; exact g_trans HB.out (g_drew (g_drewN g_refl nq)))
  clear HL HR HS0 HB s6 s7
  generalize hX : W3.drewN nq = X at *
  clear hX
  go_region_held3 (fun w' => w'.cell? ⟨bl, 0, none⟩ = some (.string lk.a) ∧ w'.cell? ⟨bl, 1, none⟩ = some (.string lk.b) ∧ w'.cell? ⟨bl, 2, none⟩ = some (.string lk.c) ∧ w'.cell? ⟨bl, 3, none⟩ = some (.string lk.d) ∧ w'.cell? ⟨bl, 4, none⟩ = some (.string lk.e) ∧ w'.cell? ⟨bl, 5, none⟩ = some (.string lk.f) ∧ w'.cell? ⟨bl, 6, none⟩ = some (.pointer ll.ad) ∧ w'.cell? ⟨bl, 7, none⟩ = some (.pointer (some ⟨bm, 0, none⟩)) ∧ w'.cell? ⟨bm, 0, none⟩ = some (.string mk.a) ∧ w'.cell? ⟨bm, 1, none⟩ = some (.string mk.b) ∧ w'.cell? ⟨bm, 2, none⟩ = some (.string mk.c) ∧ w'.cell? ⟨bm, 3, none⟩ = some (.string mk.d) ∧ w'.cell? ⟨bm, 4, none⟩ = some (.string mk.e) ∧ w'.cell? ⟨bm, 5, none⟩ = some (.string mk.f) ∧ w'.cell? ⟨bm, 6, none⟩ = some (.pointer ml.ad) ∧ w'.cell? ⟨bm, 7, none⟩ = some (.pointer mr.ad) ∧ w'.cell? ⟨q, 0, none⟩ = some (.string k.a) ∧ w'.cell? ⟨q, 1, none⟩ = some (.string k.b) ∧ w'.cell? ⟨q, 2, none⟩ = some (.string k.c) ∧ w'.cell? ⟨q, 3, none⟩ = some (.string k.d) ∧ w'.cell? ⟨q, 4, none⟩ = some (.string k.e) ∧ w'.cell? ⟨q, 5, none⟩ = some (.string k.f)) (first | with_reducible assumption | exact keep22 (by with_reducible assumption) (by with_reducible assumption))
    (first | (go_at_call_of 88 mk; (with_reducible refine Calls.mono (tree_any _ _ _ _ (by first | with_reducible exact hT1 | with_reducible exact hT1.below hb2) (by first | with_reducible exact hT2 | with_reducible exact hT2.below hb1) ?_) ?_); (obtain ⟨_, e1⟩ := hp1; obtain ⟨_, e2⟩ := hp2; rw [e1, e2, Tr.sz_node, Tr.sz_node]; have := HS.out; omega); rintro _ w3 ⟨T3, rfl, hT3, hp3, hb3⟩) | (go_at_call_of 88 lk; (with_reducible refine Calls.mono (tree_any _ _ _ _ (by first | with_reducible exact HA.out | with_reducible exact HA.out.below hb2) (by first | with_reducible exact HM.out | with_reducible exact HM.out.below hb2) ?_) ?_); (have := HS.out; omega); rintro _ w1 ⟨T1, rfl, hT1, hp1, hb1⟩) | (go_at_call_of 88 k; (with_reducible refine Calls.mono (tree_any _ _ _ _ (by first | with_reducible exact HN.out | with_reducible exact HN.out.below hb1) (by first | with_reducible exact HO.out | with_reducible exact HO.out.below hb1) ?_) ?_); (have := HS.out; omega); rintro _ w2 ⟨T2, rfl, hT2, hp2, hb2⟩))
  all_goals go_wp2
  all_goals go_ret
  all_goals
    obtain ⟨_, rfl⟩ := hp1
    obtain ⟨_, rfl⟩ := hp2
    obtain ⟨_, rfl⟩ := hp3
    have h := HE.out
    subst h
    exact ⟨_, rfl, hT3, HP.out _ _ _, by first | with_reducible exact g_trans (g_trans (g_trans HB3.out hb1) hb2) hb3 | with_reducible exact g_trans (g_trans (g_trans HB3.out hb2) hb1) hb3⟩

set_option maxRecDepth 20000 in
set_option maxHeartbeats 2000000 in
theorem bal_b1 (rr L rl : Tr) (br : Nat) (rk k : Tup) (w : World) (hl : Lies w L) (hr : Lies w (Tr.node br rl rk rr)) (hs : rr.sz + L.sz + rl.sz ≤ 5000000)
    (h1 : L.Bal) (h2 : (Tr.node br rl rk rr).Bal) (h3 : (Tr.node br rl rk rr).dp = L.dp + 2) (h4 : rl.dp ≤ rr.dp) :
    Calls Tryz.prog 86 #[.pointer L.ad, .agg #[.string k.a, .string k.b, .string k.c, .string k.d, .string k.e, .string k.f], .pointer (some ⟨br, 0, none⟩)] w (Gives w (BalP L k (Tr.node br rl rk rr))) := by
  have HP := hid (fun b1 b2 => balp_b1 (k := k) (b1 := b1) (b2 := b2) h1 h2 h3 h4)
  have hB : Below w.heap.size w (w.alloc (.cells #[.string k.a, .string k.b, .string k.c, .string k.d, .string k.e, .string k.f] 86)) := g_alloc g_refl _
  have HL := hid (hl.below hB)
  have HR := hid (hr.below hB)
  have HB := hid hB
  have d2 := L.dp_sz
  have HS := hid hs
  obtain ⟨d, hd⟩ : ∃ d, L.dp = d := ⟨_, rfl⟩
  obtain ⟨x, hx⟩ : ∃ x, rr.dp = x := ⟨_, rfl⟩
  obtain ⟨y, hy⟩ : ∃ y, rl.dp = y := ⟨_, rfl⟩
  have q1 : (0 : Int) ≤ (d : Int) := by omega
  have q2 : (d : Int) ≤ 5000000 := by omega
  have q3 : (d : Int) - ((d : Int) + 2) = -2 := by omega
  have q4 : (y : Int) ≤ (x : Int) := by omega
  have HLd := hid (fun W (h : Lies W L) => show Calls Tryz.prog 96 #[.pointer L.ad] W fun e w' => e = .returned (.int .i64 (d : Int)) ∧ w' = W by have q := levels_any _ W h; rw [show (L.dp : Int) = (d : Int) by omega] at q; exact q)
  have HRd := hid (fun W (h : Lies W (Tr.node br rl rk rr)) => show Calls Tryz.prog 96 #[.pointer (some ⟨br, 0, none⟩)] W fun e w' => e = .returned (.int .i64 ((d : Int) + 2)) ∧ w' = W by have q := levels_any _ W h; rw [show ((Tr.node br rl rk rr).dp : Int) = ((d : Int) + 2) by omega] at q; exact q)
  have Hnd := hid (fun W (h : Lies W rr) => show Calls Tryz.prog 96 #[.pointer rr.ad] W fun e w' => e = .returned (.int .i64 (x : Int)) ∧ w' = W by have q := levels_any _ W h; rw [show (rr.dp : Int) = (x : Int) by omega] at q; exact q)
  have Hfd := hid (fun W (h : Lies W rl) => show Calls Tryz.prog 96 #[.pointer rl.ad] W fun e w' => e = .returned (.int .i64 (y : Int)) ∧ w' = W by have q := levels_any _ W h; rw [show (rl.dp : Int) = (y : Int) by omega] at q; exact q)
  clear hl hr hs hB d2 h1 h2 h3 h4 hd hx hy
  go_enter Tryz.func86, Tryz.ntmps86
  go_wp2_with fail
  have hbx := box6 w k 86
  generalize hW : (w.alloc (.cells #[.string k.a, .string k.b, .string k.c, .string k.d, .string k.e, .string k.f] 86)) = W1 at *
  generalize hq : w.heap.size = q at *
  have HE := hid hq
  obtain ⟨s0, s1, s2, s3, s4, s5, s6, s7, s8, s9⟩ := HR.out.six
  have hS : W1.cell? ⟨br, 0, none⟩ = some (.string rk.a) ∧ W1.cell? ⟨br, 1, none⟩ = some (.string rk.b) ∧ W1.cell? ⟨br, 2, none⟩ = some (.string rk.c) ∧ W1.cell? ⟨br, 3, none⟩ = some (.string rk.d) ∧ W1.cell? ⟨br, 4, none⟩ = some (.string rk.e) ∧ W1.cell? ⟨br, 5, none⟩ = some (.string rk.f) ∧ W1.cell? ⟨br, 6, none⟩ = some (.pointer rl.ad) ∧ W1.cell? ⟨br, 7, none⟩ = some (.pointer rr.ad) ∧ W1.cell? ⟨q, 0, none⟩ = some (.string k.a) ∧ W1.cell? ⟨q, 1, none⟩ = some (.string k.b) ∧ W1.cell? ⟨q, 2, none⟩ = some (.string k.c) ∧ W1.cell? ⟨q, 3, none⟩ = some (.string k.d) ∧ W1.cell? ⟨q, 4, none⟩ = some (.string k.e) ∧ W1.cell? ⟨q, 5, none⟩ = some (.string k.f) := ⟨s0, s1, s2, s3, s4, s5, s6, s7, hbx⟩
  have HS0 := hid hS
  clear hW hq s0 s1 s2 s3 s4 s5 s8 s9 hbx hS
  refine (HLd.out _ HL.out).mono ?_
  rintro _ W2 ⟨rfl, rfl⟩
  go_wp2_with fail
  refine (HRd.out _ HR.out).mono ?_
  rintro _ W3 ⟨rfl, rfl⟩
  go_wp2_with fail
  go_quiet (fail)
  go_wp2_with fail
  generalize hY : W3.drewN nq = Y at *
  have HLY := hid (show Lies Y _ by rw [← hY]; exact HL.out.below (g_drewN g_refl nq))
  have HRY := hid (show Lies Y _ by rw [← hY]; exact HR.out.below (g_drewN g_refl nq))
  have HSY := hid (show Y.cell? ⟨br, 0, none⟩ = some (.string rk.a) ∧ Y.cell? ⟨br, 1, none⟩ = some (.string rk.b) ∧ Y.cell? ⟨br, 2, none⟩ = some (.string rk.c) ∧ Y.cell? ⟨br, 3, none⟩ = some (.string rk.d) ∧ Y.cell? ⟨br, 4, none⟩ = some (.string rk.e) ∧ Y.cell? ⟨br, 5, none⟩ = some (.string rk.f) ∧ Y.cell? ⟨br, 6, none⟩ = some (.pointer rl.ad) ∧ Y.cell? ⟨br, 7, none⟩ = some (.pointer rr.ad) ∧ Y.cell? ⟨q, 0, none⟩ = some (.string k.a) ∧ Y.cell? ⟨q, 1, none⟩ = some (.string k.b) ∧ Y.cell? ⟨q, 2, none⟩ = some (.string k.c) ∧ Y.cell? ⟨q, 3, none⟩ = some (.string k.d) ∧ Y.cell? ⟨q, 4, none⟩ = some (.string k.e) ∧ Y.cell? ⟨q, 5, none⟩ = some (.string k.f) by rw [← hY]; exact keep14 (g_drewN g_refl nq) HS0.out)
  have HBY := hid (show Below q w Y by have h := HE.out; subst h; rw [← hY]; exact g_trans HB.out (g_drewN g_refl nq))
  clear hY HL HR HS0 HB s6 s7
  obtain ⟨-, -, -, -, -, -, s6, s7, -⟩ := id HSY.out
  go_quiet (first | (go_at_call_of 96 rr; refine Calls.quiet_of_same (Hnd.out _ ?_); exact (Lies.below (g_drewN g_refl _) HRY.out.2.2)) | (go_at_call_of 96 rl; refine Calls.quiet_of_same (Hfd.out _ ?_); exact (Lies.below (g_drewN g_refl _) HRY.out.2.1)))
  go_wp2_with fail
  have HA := hid (Lies.below (g_drew (g_drewN g_refl nq)) (HRY.out.2.2))
  have HC := hid (Lies.below (g_drew (g_drewN g_refl nq)) (HRY.out.2.1))
  have HO := hid (HLY.out.below (g_drew (g_drewN g_refl nq)))
  have hS := keep14 (g_drew (g_drewN g_refl nq)) HSY.out
  have HB3 : Hid (Below q w (Y.drewN nq).drew) := hid (by have h := HE.out; subst h; exact g_trans HBY.out (g_drew (g_drewN g_refl nq)))
  clear HLY HRY HSY HBY s6 s7
  generalize hX : Y.drewN nq = X at *
  clear hX
  go_region_held3 (fun w' => w'.cell? ⟨br, 0, none⟩ = some (.string rk.a) ∧ w'.cell? ⟨br, 1, none⟩ = some (.string rk.b) ∧ w'.cell? ⟨br, 2, none⟩ = some (.string rk.c) ∧ w'.cell? ⟨br, 3, none⟩ = some (.string rk.d) ∧ w'.cell? ⟨br, 4, none⟩ = some (.string rk.e) ∧ w'.cell? ⟨br, 5, none⟩ = some (.string rk.f) ∧ w'.cell? ⟨br, 6, none⟩ = some (.pointer rl.ad) ∧ w'.cell? ⟨br, 7, none⟩ = some (.pointer rr.ad) ∧ w'.cell? ⟨q, 0, none⟩ = some (.string k.a) ∧ w'.cell? ⟨q, 1, none⟩ = some (.string k.b) ∧ w'.cell? ⟨q, 2, none⟩ = some (.string k.c) ∧ w'.cell? ⟨q, 3, none⟩ = some (.string k.d) ∧ w'.cell? ⟨q, 4, none⟩ = some (.string k.e) ∧ w'.cell? ⟨q, 5, none⟩ = some (.string k.f)) (first | with_reducible assumption | exact keep14 (by with_reducible assumption) (by with_reducible assumption))
    (first | (go_at_call_of 88 rk; (with_reducible refine Calls.mono (tree_any _ _ _ _ (hT1) (HA.out.below hb1) ?_) ?_); (obtain ⟨_, e1⟩ := hp1; rw [e1, Tr.sz_node]; have := HS.out; omega); rintro _ w2 ⟨T2, rfl, hT2, hp2, hb2⟩) | (go_at_call_of 88 k; (with_reducible refine Calls.mono (tree_any _ _ _ _ (HO.out) (HC.out) ?_) ?_); (have := HS.out; omega); rintro _ w1 ⟨T1, rfl, hT1, hp1, hb1⟩))
  all_goals go_wp2
  all_goals go_ret
  all_goals
    obtain ⟨_, rfl⟩ := hp1
    obtain ⟨_, rfl⟩ := hp2
    have h := HE.out
    subst h
    exact ⟨_, rfl, hT2, HP.out _ _, g_trans (g_trans HB3.out hb1) hb2⟩

set_option maxRecDepth 20000 in
set_option maxHeartbeats 2000000 in
theorem bal_b2 (rr L ml mr : Tr) (br bm : Nat) (rk k mk : Tup) (w : World) (hl : Lies w L) (hr : Lies w (Tr.node br (Tr.node bm ml mk mr) rk rr)) (hs : rr.sz + L.sz + ml.sz + mr.sz ≤ 5000000)
    (h1 : L.Bal) (h2 : (Tr.node br (Tr.node bm ml mk mr) rk rr).Bal) (h3 : (Tr.node br (Tr.node bm ml mk mr) rk rr).dp = L.dp + 2) (h4 : rr.dp < (Tr.node bm ml mk mr).dp) :
    Calls Tryz.prog 86 #[.pointer L.ad, .agg #[.string k.a, .string k.b, .string k.c, .string k.d, .string k.e, .string k.f], .pointer (some ⟨br, 0, none⟩)] w (Gives w (BalP L k (Tr.node br (Tr.node bm ml mk mr) rk rr))) := by
  have HP := hid (fun b1 b2 b3 => balp_b2 (k := k) (b1 := b1) (b2 := b2) (b3 := b3) h1 h2 h3 h4)
  have hB : Below w.heap.size w (w.alloc (.cells #[.string k.a, .string k.b, .string k.c, .string k.d, .string k.e, .string k.f] 86)) := g_alloc g_refl _
  have HL := hid (hl.below hB)
  have HR := hid (hr.below hB)
  have HB := hid hB
  have d2 := L.dp_sz
  have HS := hid hs
  obtain ⟨d, hd⟩ : ∃ d, L.dp = d := ⟨_, rfl⟩
  obtain ⟨x, hx⟩ : ∃ x, rr.dp = x := ⟨_, rfl⟩
  obtain ⟨y, hy⟩ : ∃ y, (Tr.node bm ml mk mr).dp = y := ⟨_, rfl⟩
  have q1 : (0 : Int) ≤ (d : Int) := by omega
  have q2 : (d : Int) ≤ 5000000 := by omega
  have q3 : (d : Int) - ((d : Int) + 2) = -2 := by omega
  have q4 : (x : Int) < (y : Int) := by omega
  have HLd := hid (fun W (h : Lies W L) => show Calls Tryz.prog 96 #[.pointer L.ad] W fun e w' => e = .returned (.int .i64 (d : Int)) ∧ w' = W by have q := levels_any _ W h; rw [show (L.dp : Int) = (d : Int) by omega] at q; exact q)
  have HRd := hid (fun W (h : Lies W (Tr.node br (Tr.node bm ml mk mr) rk rr)) => show Calls Tryz.prog 96 #[.pointer (some ⟨br, 0, none⟩)] W fun e w' => e = .returned (.int .i64 ((d : Int) + 2)) ∧ w' = W by have q := levels_any _ W h; rw [show ((Tr.node br (Tr.node bm ml mk mr) rk rr).dp : Int) = ((d : Int) + 2) by omega] at q; exact q)
  have Hnd := hid (fun W (h : Lies W rr) => show Calls Tryz.prog 96 #[.pointer rr.ad] W fun e w' => e = .returned (.int .i64 (x : Int)) ∧ w' = W by have q := levels_any _ W h; rw [show (rr.dp : Int) = (x : Int) by omega] at q; exact q)
  have Hfd := hid (fun W (h : Lies W (Tr.node bm ml mk mr)) => show Calls Tryz.prog 96 #[.pointer (some ⟨bm, 0, none⟩)] W fun e w' => e = .returned (.int .i64 (y : Int)) ∧ w' = W by have q := levels_any _ W h; rw [show ((Tr.node bm ml mk mr).dp : Int) = (y : Int) by omega] at q; exact q)
  clear hl hr hs hB d2 h1 h2 h3 h4 hd hx hy
  go_enter Tryz.func86, Tryz.ntmps86
  go_wp2_with fail
  have hbx := box6 w k 86
  generalize hW : (w.alloc (.cells #[.string k.a, .string k.b, .string k.c, .string k.d, .string k.e, .string k.f] 86)) = W1 at *
  generalize hq : w.heap.size = q at *
  have HE := hid hq
  obtain ⟨s0, s1, s2, s3, s4, s5, s6, s7, s8, s9⟩ := HR.out.six
  replace s6 : W1.cell? ⟨br, 6, none⟩ = some (.pointer (some ⟨bm, 0, none⟩)) := s6
  obtain ⟨m0, m1, m2, m3, m4, m5, m6, m7, m8, m9⟩ := Lies.six HR.out.2.1
  have hS : W1.cell? ⟨br, 0, none⟩ = some (.string rk.a) ∧ W1.cell? ⟨br, 1, none⟩ = some (.string rk.b) ∧ W1.cell? ⟨br, 2, none⟩ = some (.string rk.c) ∧ W1.cell? ⟨br, 3, none⟩ = some (.string rk.d) ∧ W1.cell? ⟨br, 4, none⟩ = some (.string rk.e) ∧ W1.cell? ⟨br, 5, none⟩ = some (.string rk.f) ∧ W1.cell? ⟨br, 6, none⟩ = some (.pointer (some ⟨bm, 0, none⟩)) ∧ W1.cell? ⟨br, 7, none⟩ = some (.pointer rr.ad) ∧ W1.cell? ⟨bm, 0, none⟩ = some (.string mk.a) ∧ W1.cell? ⟨bm, 1, none⟩ = some (.string mk.b) ∧ W1.cell? ⟨bm, 2, none⟩ = some (.string mk.c) ∧ W1.cell? ⟨bm, 3, none⟩ = some (.string mk.d) ∧ W1.cell? ⟨bm, 4, none⟩ = some (.string mk.e) ∧ W1.cell? ⟨bm, 5, none⟩ = some (.string mk.f) ∧ W1.cell? ⟨bm, 6, none⟩ = some (.pointer ml.ad) ∧ W1.cell? ⟨bm, 7, none⟩ = some (.pointer mr.ad) ∧ W1.cell? ⟨q, 0, none⟩ = some (.string k.a) ∧ W1.cell? ⟨q, 1, none⟩ = some (.string k.b) ∧ W1.cell? ⟨q, 2, none⟩ = some (.string k.c) ∧ W1.cell? ⟨q, 3, none⟩ = some (.string k.d) ∧ W1.cell? ⟨q, 4, none⟩ = some (.string k.e) ∧ W1.cell? ⟨q, 5, none⟩ = some (.string k.f) := ⟨s0, s1, s2, s3, s4, s5, s6, s7, m0, m1, m2, m3, m4, m5, m6, m7, hbx⟩
  have HS0 := hid hS
  clear hW hq s0 s1 s2 s3 s4 s5 s8 s9 hbx hS m0 m1 m2 m3 m4 m5 m6 m7 m8 m9
  refine (HLd.out _ HL.out).mono ?_
  rintro _ W2 ⟨rfl, rfl⟩
  go_wp2_with fail
  refine (HRd.out _ HR.out).mono ?_
  rintro _ W3 ⟨rfl, rfl⟩
  go_wp2_with fail
  go_quiet (fail)
  go_wp2_with fail
  generalize hY : W3.drewN nq = Y at *
  have HLY := hid (show Lies Y _ by rw [← hY]; exact HL.out.below (g_drewN g_refl nq))
  have HRY := hid (show Lies Y _ by rw [← hY]; exact HR.out.below (g_drewN g_refl nq))
  have HSY := hid (show Y.cell? ⟨br, 0, none⟩ = some (.string rk.a) ∧ Y.cell? ⟨br, 1, none⟩ = some (.string rk.b) ∧ Y.cell? ⟨br, 2, none⟩ = some (.string rk.c) ∧ Y.cell? ⟨br, 3, none⟩ = some (.string rk.d) ∧ Y.cell? ⟨br, 4, none⟩ = some (.string rk.e) ∧ Y.cell? ⟨br, 5, none⟩ = some (.string rk.f) ∧ Y.cell? ⟨br, 6, none⟩ = some (.pointer (some ⟨bm, 0, none⟩)) ∧ Y.cell? ⟨br, 7, none⟩ = some (.pointer rr.ad) ∧ Y.cell? ⟨bm, 0, none⟩ = some (.string mk.a) ∧ Y.cell? ⟨bm, 1, none⟩ = some (.string mk.b) ∧ Y.cell? ⟨bm, 2, none⟩ = some (.string mk.c) ∧ Y.cell? ⟨bm, 3, none⟩ = some (.string mk.d) ∧ Y.cell? ⟨bm, 4, none⟩ = some (.string mk.e) ∧ Y.cell? ⟨bm, 5, none⟩ = some (.string mk.f) ∧ Y.cell? ⟨bm, 6, none⟩ = some (.pointer ml.ad) ∧ Y.cell? ⟨bm, 7, none⟩ = some (.pointer mr.ad) ∧ Y.cell? ⟨q, 0, none⟩ = some (.string k.a) ∧ Y.cell? ⟨q, 1, none⟩ = some (.string k.b) ∧ Y.cell? ⟨q, 2, none⟩ = some (.string k.c) ∧ Y.cell? ⟨q, 3, none⟩ = some (.string k.d) ∧ Y.cell? ⟨q, 4, none⟩ = some (.string k.e) ∧ Y.cell? ⟨q, 5, none⟩ = some (.string k.f) by rw [← hY]; exact keep22 (g_drewN g_refl nq) HS0.out)
  have HBY := hid (show Below q w Y by have h := HE.out; subst h; rw [← hY]; exact g_trans HB.out (g_drewN g_refl nq))
  clear hY HL HR HS0 HB s6 s7
  obtain ⟨-, -, -, -, -, -, s6, s7, -⟩ := id HSY.out
  go_quiet (first | (go_at_call_of 96 rr; refine Calls.quiet_of_same (Hnd.out _ ?_); exact (Lies.below (g_drewN g_refl _) HRY.out.2.2)) | (go_at_call_of 96 bm; refine Calls.quiet_of_same (Hfd.out _ ?_); exact (Lies.below (g_drewN g_refl _) HRY.out.2.1)))
  go_wp2_with fail
  have HA := hid (Lies.below (g_drew (g_drewN g_refl nq)) (HRY.out.2.2))
  have HM := hid (Lies.below (g_drew (g_drewN g_refl nq)) (Lies.left (HRY.out.2.1)))
  have HN := hid (Lies.below (g_drew (g_drewN g_refl nq)) (Lies.right (HRY.out.2.1)))
  have HO := hid (HLY.out.below (g_drew (g_drewN g_refl nq)))
  have hS := keep22 (g_drew (g_drewN g_refl nq)) HSY.out
  have HB3 : Hid (Below q w (Y.drewN nq).drew) := hid (by have h := HE.out; subst h; exact g_trans HBY.out (g_drew (g_drewN g_refl nq)))
  clear HLY HRY HSY HBY s6 s7
  generalize hX : Y.drewN nq = X at *
  clear hX
  go_region_held3 (fun w' => w'.cell? ⟨br, 0, none⟩ = some (.string rk.a) ∧ w'.cell? ⟨br, 1, none⟩ = some (.string rk.b) ∧ w'.cell? ⟨br, 2, none⟩ = some (.string rk.c) ∧ w'.cell? ⟨br, 3, none⟩ = some (.string rk.d) ∧ w'.cell? ⟨br, 4, none⟩ = some (.string rk.e) ∧ w'.cell? ⟨br, 5, none⟩ = some (.string rk.f) ∧ w'.cell? ⟨br, 6, none⟩ = some (.pointer (some ⟨bm, 0, none⟩)) ∧ w'.cell? ⟨br, 7, none⟩ = some (.pointer rr.ad) ∧ w'.cell? ⟨bm, 0, none⟩ = some (.string mk.a) ∧ w'.cell? ⟨bm, 1, none⟩ = some (.string mk.b) ∧ w'.cell? ⟨bm, 2, none⟩ = some (.string mk.c) ∧ w'.cell? ⟨bm, 3, none⟩ = some (.string mk.d) ∧ w'.cell? ⟨bm, 4, none⟩ = some (.string mk.e) ∧ w'.cell? ⟨bm, 5, none⟩ = some (.string mk.f) ∧ w'.cell? ⟨bm, 6, none⟩ = some (.pointer ml.ad) ∧ w'.cell? ⟨bm, 7, none⟩ = some (.pointer mr.ad) ∧ w'.cell? ⟨q, 0, none⟩ = some (.string k.a) ∧ w'.cell? ⟨q, 1, none⟩ = some (.string k.b) ∧ w'.cell? ⟨q, 2, none⟩ = some (.string k.c) ∧ w'.cell? ⟨q, 3, none⟩ = some (.string k.d) ∧ w'.cell? ⟨q, 4, none⟩ = some (.string k.e) ∧ w'.cell? ⟨q, 5, none⟩ = some (.string k.f)) (first | with_reducible assumption | exact keep22 (by with_reducible assumption) (by with_reducible assumption))
    (first | (go_at_call_of 88 mk; (with_reducible refine Calls.mono (tree_any _ _ _ _ (by first | with_reducible exact hT1 | with_reducible exact hT1.below hb2) (by first | with_reducible exact hT2 | with_reducible exact hT2.below hb1) ?_) ?_); (obtain ⟨_, e1⟩ := hp1; obtain ⟨_, e2⟩ := hp2; rw [e1, e2, Tr.sz_node, Tr.sz_node]; have := HS.out; omega); rintro _ w3 ⟨T3, rfl, hT3, hp3, hb3⟩) | (go_at_call_of 88 rk; (with_reducible refine Calls.mono (tree_any _ _ _ _ (by first | with_reducible exact HN.out | with_reducible exact HN.out.below hb1) (by first | with_reducible exact HA.out | with_reducible exact HA.out.below hb1) ?_) ?_); (have := HS.out; omega); rintro _ w2 ⟨T2, rfl, hT2, hp2, hb2⟩) | (go_at_call_of 88 k; (with_reducible refine Calls.mono (tree_any _ _ _ _ (by first | with_reducible exact HO.out | with_reducible exact HO.out.below hb2) (by first | with_reducible exact HM.out | with_reducible exact HM.out.below hb2) ?_) ?_); (have := HS.out; omega); rintro _ w1 ⟨T1, rfl, hT1, hp1, hb1⟩))
  all_goals go_wp2
  all_goals go_ret
  all_goals
    obtain ⟨_, rfl⟩ := hp1
    obtain ⟨_, rfl⟩ := hp2
    obtain ⟨_, rfl⟩ := hp3
    have h := HE.out
    subst h
    exact ⟨_, rfl, hT3, HP.out _ _ _, by first | with_reducible exact g_trans (g_trans (g_trans HB3.out hb1) hb2) hb3 | with_reducible exact g_trans (g_trans (g_trans HB3.out hb2) hb1) hb3⟩

set_option maxRecDepth 20000 in
set_option maxHeartbeats 2000000 in
theorem bal_c (L R : Tr) (k : Tup) (w : World) (hl : Lies w L) (hr : Lies w R) (hs : L.sz + R.sz ≤ 5000000) (h1 : L.Bal) (h2 : R.Bal) (h3 : L.dp ≤ R.dp + 1) (h4 : R.dp ≤ L.dp + 1) :
    Calls Tryz.prog 86 #[.pointer L.ad, .agg #[.string k.a, .string k.b, .string k.c, .string k.d, .string k.e, .string k.f], .pointer R.ad] w (Gives w (BalP L k R)) := by
  have HP := hid (fun b => balp_c (k := k) (b := b) h1 h2 h3 h4)
  have hB : Below w.heap.size w (w.alloc (.cells #[.string k.a, .string k.b, .string k.c, .string k.d, .string k.e, .string k.f] 86)) := g_alloc g_refl _
  have HL := hid (hl.below hB)
  have HR := hid (hr.below hB)
  have HB := hid hB
  have d1 := L.dp_sz
  have d2 := R.dp_sz
  have HS := hid hs
  obtain ⟨x, hx⟩ : ∃ x, L.dp = x := ⟨_, rfl⟩
  obtain ⟨y, hy⟩ : ∃ y, R.dp = y := ⟨_, rfl⟩
  obtain ⟨e, he⟩ : ∃ e : Int, (x : Int) - (y : Int) = e := ⟨_, rfl⟩
  have q1 : decide ((1 : Int) < e) = false := by simp; omega
  have q2 : decide (e < (-1 : Int)) = false := by simp; omega
  have HLd := hid (fun W (h : Lies W L) => show Calls Tryz.prog 96 #[.pointer L.ad] W fun e w' => e = .returned (.int .i64 (x : Int)) ∧ w' = W by have q := levels_any _ W h; rw [show (L.dp : Int) = (x : Int) by omega] at q; exact q)
  have HRd := hid (fun W (h : Lies W R) => show Calls Tryz.prog 96 #[.pointer R.ad] W fun e w' => e = .returned (.int .i64 (y : Int)) ∧ w' = W by have q := levels_any _ W h; rw [show (R.dp : Int) = (y : Int) by omega] at q; exact q)
  have q3 : (0 : Int) ≤ (x : Int) := by omega
  have q4 : (0 : Int) ≤ (y : Int) := by omega
  have q5 : (x : Int) ≤ 5000000 := by omega
  have q6 : (y : Int) ≤ 5000000 := by omega
  clear hl hr hs hB d1 d2 h1 h2 h3 h4 hx hy
  go_enter Tryz.func86, Tryz.ntmps86
  go_wp2_with fail
  have hbx := box6 w k 86
  generalize hW : (w.alloc (.cells #[.string k.a, .string k.b, .string k.c, .string k.d, .string k.e, .string k.f] 86)) = W1 at *
  generalize hq : w.heap.size = q at *
  have HE := hid hq
  have HX := hid hbx
  clear hW hq hbx
  refine (HLd.out _ HL.out).mono ?_
  rintro _ W2 ⟨rfl, rfl⟩
  go_wp2_with fail
  refine (HRd.out _ HR.out).mono ?_
  rintro _ W3 ⟨rfl, rfl⟩
  go_wp2_with fail
  go_quiet (fail)
  generalize hY : W3.drewN nq = Y at *
  have HLY := hid (show Lies Y _ by rw [← hY]; exact HL.out.below (g_drewN g_refl nq))
  have HRY := hid (show Lies Y _ by rw [← hY]; exact HR.out.below (g_drewN g_refl nq))
  have HXY := hid (show Y.cell? ⟨q, 0, none⟩ = some (.string k.a) ∧ Y.cell? ⟨q, 1, none⟩ = some (.string k.b) ∧ Y.cell? ⟨q, 2, none⟩ = some (.string k.c) ∧ Y.cell? ⟨q, 3, none⟩ = some (.string k.d) ∧ Y.cell? ⟨q, 4, none⟩ = some (.string k.e) ∧ Y.cell? ⟨q, 5, none⟩ = some (.string k.f) by rw [← hY]; exact HX.out)
  have HBY := hid (show Below q w Y by have h := HE.out; subst h; rw [← hY]; exact g_trans HB.out (g_drewN g_refl nq))
  clear hY HL HR HX HB
  go_wp2_with fail
  go_quiet (fail)
  generalize hZ : Y.drewN nq = Z at *
  have HLZ := hid (show Lies Z _ by rw [← hZ]; exact HLY.out.below (g_drewN g_refl nq))
  have HRZ := hid (show Lies Z _ by rw [← hZ]; exact HRY.out.below (g_drewN g_refl nq))
  have hXZ : Z.cell? ⟨q, 0, none⟩ = some (.string k.a) ∧ Z.cell? ⟨q, 1, none⟩ = some (.string k.b) ∧ Z.cell? ⟨q, 2, none⟩ = some (.string k.c) ∧ Z.cell? ⟨q, 3, none⟩ = some (.string k.d) ∧ Z.cell? ⟨q, 4, none⟩ = some (.string k.e) ∧ Z.cell? ⟨q, 5, none⟩ = some (.string k.f) := by rw [← hZ]; exact HXY.out
  have HBZ := hid (show Below q w Z by have h := HE.out; subst h; rw [← hZ]; exact g_trans HBY.out (g_drewN g_refl nq))
  clear hZ HLY HRY HXY HBY
  obtain ⟨c0, c1, c2, c3, c4, c5⟩ := hXZ
  go_wp2_with fail
  refine (tree_any _ _ _ _ HLZ.out HRZ.out (by have := HS.out; omega)).mono ?_
  rintro _ w1 ⟨T1, rfl, hT1, hp1, hb1⟩
  go_wp2
  go_ret
  obtain ⟨_, rfl⟩ := hp1
  have h := HE.out
  subst h
  exact ⟨_, rfl, hT1, HP.out _, g_trans HBZ.out hb1⟩

theorem balance_any (L R : Tr) (k : Tup) (w : World) (hl : Lies w L) (hr : Lies w R) (hs : L.sz + R.sz ≤ 4000000) (h1 : L.Bal) (h2 : R.Bal) (h3 : L.dp ≤ R.dp + 2) (h4 : R.dp ≤ L.dp + 2) :
    Calls Tryz.prog 86 #[.pointer L.ad, .agg #[.string k.a, .string k.b, .string k.c, .string k.d, .string k.e, .string k.f], .pointer R.ad] w (Gives w (BalP L k R)) := by
  by_cases ha : L.dp = R.dp + 2
  · obtain ⟨bl, ll, lk, lr, rfl⟩ := Tr.dp_pos (T := L) (by omega)
    rw [Tr.sz_node] at hs
    by_cases hm : lr.dp ≤ ll.dp
    · exact bal_a1 ll R lr bl lk k w hl hr (by omega) h1 h2 ha hm
    · obtain ⟨bm, ml, mk, mr, rfl⟩ := Tr.dp_pos (T := lr) (by omega)
      rw [Tr.sz_node] at hs
      exact bal_a2 ll R ml mr bl bm lk k mk w hl hr (by omega) h1 h2 ha (by omega)
  · by_cases hb : R.dp = L.dp + 2
    · obtain ⟨br, rl, rk, rr, rfl⟩ := Tr.dp_pos (T := R) (by omega)
      rw [Tr.sz_node] at hs
      by_cases hm : rl.dp ≤ rr.dp
      · exact bal_b1 rr L rl br rk k w hl hr (by omega) h1 h2 hb hm
      · obtain ⟨bm, ml, mk, mr, rfl⟩ := Tr.dp_pos (T := rl) (by omega)
        rw [Tr.sz_node] at hs
        exact bal_b2 rr L ml mr br bm rk k mk w hl hr (by omega) h1 h2 hb (by omega)
    · exact bal_c L R k w hl hr (by omega) h1 h2 (by omega) (by omega)
end Go.Proofs.YtgfgfggoofjeeaaGreat.DT
