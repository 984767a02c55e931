/-
  THE CONTRACT of balance (values: int).
-/
import Derived.Test.YthkceffnfhdjhaaDINode
namespace Go.Proofs.Ythkceffnfhdjhaa.DI
open Go.RowKit Go.Deep

theorem keep6 {a b : World} {p q : Nat} {x0 x1 x2 x3 y0 y1 : Value} (h : Below a.heap.size a b)
    (s : a.cell? ⟨p, 0, none⟩ = some x0 ∧ a.cell? ⟨p, 1, none⟩ = some x1 ∧ a.cell? ⟨p, 2, none⟩ = some x2 ∧ a.cell? ⟨p, 3, none⟩ = some x3 ∧ a.cell? ⟨q, 0, none⟩ = some y0 ∧ a.cell? ⟨q, 1, none⟩ = some y1) :
    b.cell? ⟨p, 0, none⟩ = some x0 ∧ b.cell? ⟨p, 1, none⟩ = some x1 ∧ b.cell? ⟨p, 2, none⟩ = some x2 ∧ b.cell? ⟨p, 3, none⟩ = some x3 ∧ b.cell? ⟨q, 0, none⟩ = some y0 ∧ b.cell? ⟨q, 1, none⟩ = some y1 :=
  ⟨keep1 h s.1, keep1 h s.2.1, keep1 h s.2.2.1, keep1 h s.2.2.2.1, keep1 h s.2.2.2.2.1, keep1 h s.2.2.2.2.2⟩
theorem keep10 {a b : World} {p q m : Nat} {x0 x1 x2 x3 y0 y1 z0 z1 z2 z3 : Value} (h : Below a.heap.size a b)
    (s : a.cell? ⟨p, 0, none⟩ = some x0 ∧ a.cell? ⟨p, 1, none⟩ = some x1 ∧ a.cell? ⟨p, 2, none⟩ = some x2 ∧ a.cell? ⟨p, 3, none⟩ = some x3 ∧ a.cell? ⟨m, 0, none⟩ = some z0 ∧ a.cell? ⟨m, 1, none⟩ = some z1 ∧ a.cell? ⟨m, 2, none⟩ = some z2 ∧ a.cell? ⟨m, 3, none⟩ = some z3 ∧ a.cell? ⟨q, 0, none⟩ = some y0 ∧ a.cell? ⟨q, 1, none⟩ = some y1) :
    b.cell? ⟨p, 0, none⟩ = some x0 ∧ b.cell? ⟨p, 1, none⟩ = some x1 ∧ b.cell? ⟨p, 2, none⟩ = some x2 ∧ b.cell? ⟨p, 3, none⟩ = some x3 ∧ b.cell? ⟨m, 0, none⟩ = some z0 ∧ b.cell? ⟨m, 1, none⟩ = some z1 ∧ b.cell? ⟨m, 2, none⟩ = some z2 ∧ b.cell? ⟨m, 3, none⟩ = some z3 ∧ b.cell? ⟨q, 0, none⟩ = some y0 ∧ b.cell? ⟨q, 1, none⟩ = some y1 :=
  ⟨keep1 h s.1, keep1 h s.2.1, keep1 h s.2.2.1, keep1 h s.2.2.2.1, keep1 h s.2.2.2.2.1, keep1 h s.2.2.2.2.2.1, keep1 h s.2.2.2.2.2.2.1, keep1 h s.2.2.2.2.2.2.2.1, keep1 h s.2.2.2.2.2.2.2.2.1, keep1 h s.2.2.2.2.2.2.2.2.2⟩

/-- what balance gives -/
def BalP (L : Tr Int) (k : Int) (v : Int) (R : Tr Int) (T : Tr Int) : Prop :=
  T.li = L.li ++ (k, v) :: R.li ∧ T.Bal ∧ max L.dp R.dp ≤ T.dp ∧ T.dp ≤ max L.dp R.dp + 1 ∧ (L.dp ≤ R.dp + 1 → R.dp ≤ L.dp + 1 → T.dp = max L.dp R.dp + 1)

theorem balp_c {L R : Tr Int} {k : Int} {v : Int} {b : Nat} (h1 : L.Bal) (h2 : R.Bal) (h3 : L.dp ≤ R.dp + 1) (h4 : R.dp ≤ L.dp + 1) : BalP L k v R (.node b L k v R) :=
  ⟨rfl, ⟨h1, h2, h3, h4⟩, by rw [Tr.dp_node]; omega, by rw [Tr.dp_node]; omega, fun _ _ => rfl⟩
theorem balp_a1 {ll lr R : Tr Int} {bl b1 b2 : Nat} {lk k : Int} {lv v : Int} (h1 : (Tr.node bl ll lk lv lr).Bal) (h2 : R.Bal) (h3 : (Tr.node bl ll lk lv lr).dp = R.dp + 2) (h4 : lr.dp ≤ ll.dp) :
    BalP (.node bl ll lk lv lr) k v R (.node b2 ll lk lv (.node b1 lr k v R)) := by
  rw [Tr.bal_node] at h1
  rw [Tr.dp_node] at h3
  refine ⟨by simp [Tr.li_node], ?_, ?_, ?_, ?_⟩
  · rw [Tr.bal_node, Tr.bal_node, Tr.dp_node]
    refine ⟨h1.1, ⟨h1.2.1, h2, ?_, ?_⟩, ?_, ?_⟩ <;> omega
  all_goals (simp only [Tr.dp_node]; omega)
theorem balp_a2 {ll ml mr R : Tr Int} {bl bm b1 b2 b3 : Nat} {lk k mk : Int} {lv v mv : Int} (h1 : (Tr.node bl ll lk lv (.node bm ml mk mv mr)).Bal) (h2 : R.Bal) (h3 : (Tr.node bl ll lk lv (.node bm ml mk mv mr)).dp = R.dp + 2) (h4 : ll.dp < (Tr.node bm ml mk mv mr).dp) :
    BalP (.node bl ll lk lv (.node bm ml mk mv mr)) k v R (.node b3 (.node b1 ll lk lv ml) mk mv (.node b2 mr k v R)) := by
  rw [Tr.bal_node, Tr.bal_node, Tr.dp_node] at h1
  simp only [Tr.dp_node] at h3 h4
  refine ⟨by simp [Tr.li_node], ?_, ?_, ?_, ?_⟩
  · simp only [Tr.bal_node, Tr.dp_node]
    refine ⟨⟨h1.1, h1.2.1.1, ?_, ?_⟩, ⟨h1.2.1.2.1, h2, ?_, ?_⟩, ?_, ?_⟩ <;> omega
  all_goals (simp only [Tr.dp_node]; omega)
theorem balp_b1 {L rl rr : Tr Int} {br b1 b2 : Nat} {rk k : Int} {rv v : Int} (h1 : L.Bal) (h2 : (Tr.node br rl rk rv rr).Bal) (h3 : (Tr.node br rl rk rv rr).dp = L.dp + 2) (h4 : rl.dp ≤ rr.dp) :
    BalP L k v (.node br rl rk rv rr) (.node b2 (.node b1 L k v rl) rk rv rr) := by
  rw [Tr.bal_node] at h2
  rw [Tr.dp_node] at h3
  refine ⟨by simp [Tr.li_node], ?_, ?_, ?_, ?_⟩
  · rw [Tr.bal_node, Tr.bal_node, Tr.dp_node]
    refine ⟨⟨h1, h2.1, ?_, ?_⟩, h2.2.1, ?_, ?_⟩ <;> omega
  all_goals (simp only [Tr.dp_node]; omega)
theorem balp_b2 {L ml mr rr : Tr Int} {br bm b1 b2 b3 : Nat} {rk k mk : Int} {rv v mv : Int} (h1 : L.Bal) (h2 : (Tr.node br (.node bm ml mk mv mr) rk rv rr).Bal) (h3 : (Tr.node br (.node bm ml mk mv mr) rk rv rr).dp = L.dp + 2) (h4 : rr.dp < (Tr.node bm ml mk mv mr).dp) :
    BalP L k v (.node br (.node bm ml mk mv mr) rk rv rr) (.node b3 (.node b1 L k v ml) mk mv (.node b2 mr rk rv rr)) := by
  rw [Tr.bal_node, Tr.bal_node, Tr.dp_node] at h2
  simp only [Tr.dp_node] at h3 h4
  refine ⟨by simp [Tr.li_node], ?_, ?_, ?_, ?_⟩
  · simp only [Tr.bal_node, Tr.dp_node]
    refine ⟨⟨h1, h2.1.1, ?_, ?_⟩, ⟨h2.1.2.1, h2.2.1, ?_, ?_⟩, ?_, ?_⟩ <;> omega
  all_goals (simp only [Tr.dp_node]; omega)

set_option maxRecDepth 20000 in
set_option maxHeartbeats 2000000 in
theorem bal_a1 (ll R lr : Tr Int) (bl : Nat) (lk k : Int) (lv v : Int) (w : World) (hl : Lies w (Tr.node bl ll lk lv lr)) (hr : Lies w R) (hs : ll.sz + R.sz + lr.sz ≤ 5000000)
    (h1 : (Tr.node bl ll lk lv lr).Bal) (h2 : R.Bal) (h3 : (Tr.node bl ll lk lv lr).dp = R.dp + 2) (h4 : lr.dp ≤ ll.dp) :
    Calls Try.prog 51 #[.pointer (some ⟨bl, 0, none⟩), .agg #[.int .i64 k, (.int .i64 v)], .pointer R.ad] w (Gives w (BalP (Tr.node bl ll lk lv lr) k v R)) := by
  have HP := hid (fun b1 b2 => balp_a1 (k := k) (v := v) (b1 := b1) (b2 := b2) h1 h2 h3 h4)
  have hB : Below w.heap.size w (w.alloc (.cells #[.int .i64 k, (.int .i64 v)] 50)) := g_alloc g_refl _
  have HL := hid (hl.below hB)
  have HR := hid (hr.below hB)
  have HB := hid hB
  have d2 := R.dp_sz
  have HS := hid hs
  obtain ⟨d, hd⟩ : ∃ d, R.dp = d := ⟨_, rfl⟩
  obtain ⟨x, hx⟩ : ∃ x, ll.dp = x := ⟨_, rfl⟩
  obtain ⟨y, hy⟩ : ∃ y, lr.dp = y := ⟨_, rfl⟩
  have q1 : (0 : Int) ≤ (d : Int) := by omega
  have q2 : (d : Int) ≤ 5000000 := by omega
  have q3 : (d : Int) + 2 - (d : Int) = 2 := by omega
  have q4 : (y : Int) ≤ (x : Int) := by omega
  have HLd := hid (fun W (h : Lies W (Tr.node bl ll lk lv lr)) => show Calls Try.prog 49 #[.pointer (some ⟨bl, 0, none⟩)] W fun e w' => e = .returned (.int .i64 ((d : Int) + 2)) ∧ w' = W by have q := levels_any _ W h; rw [show ((Tr.node bl ll lk lv lr).dp : Int) = ((d : Int) + 2) by omega] at q; exact q)
  have HRd := hid (fun W (h : Lies W R) => show Calls Try.prog 49 #[.pointer R.ad] W fun e w' => e = .returned (.int .i64 (d : Int)) ∧ w' = W by have q := levels_any _ W h; rw [show (R.dp : Int) = (d : Int) by omega] at q; exact q)
  have Hnd := hid (fun W (h : Lies W ll) => show Calls Try.prog 49 #[.pointer ll.ad] W fun e w' => e = .returned (.int .i64 (x : Int)) ∧ w' = W by have q := levels_any _ W h; rw [show (ll.dp : Int) = (x : Int) by omega] at q; exact q)
  have Hfd := hid (fun W (h : Lies W lr) => show Calls Try.prog 49 #[.pointer lr.ad] W fun e w' => e = .returned (.int .i64 (y : Int)) ∧ w' = W by have q := levels_any _ W h; rw [show (lr.dp : Int) = (y : Int) by omega] at q; exact q)
  clear hl hr hs hB d2 h1 h2 h3 h4 hd hx hy
  go_enter Try.func51, Try.ntmps51
  go_wp2_with fail
  have hbx := box2 w (.int .i64 k) (.int .i64 v) 50
  generalize hW : (w.alloc (.cells #[.int .i64 k, (.int .i64 v)] 50)) = W1 at *
  generalize hq : w.heap.size = q at *
  have HE := hid hq
  obtain ⟨s0, s1, s2, s3, s4, s5⟩ := HL.out.six
  have hS : W1.cell? ⟨bl, 0, none⟩ = some (.int .i64 lk) ∧ W1.cell? ⟨bl, 1, none⟩ = some (.int .i64 lv) ∧ W1.cell? ⟨bl, 2, none⟩ = some (.pointer ll.ad) ∧ W1.cell? ⟨bl, 3, none⟩ = some (.pointer lr.ad) ∧ W1.cell? ⟨q, 0, none⟩ = some (.int .i64 k) ∧ W1.cell? ⟨q, 1, none⟩ = some (.int .i64 v) := ⟨s0, s1, s2, s3, hbx.1, hbx.2⟩
  have HS0 := hid hS
  clear hW hq s0 s1 s4 s5 hbx hS
  refine (HLd.out _ HL.out).mono ?_
  rintro _ W2 ⟨rfl, rfl⟩
  go_wp2_with fail
  refine (HRd.out _ HR.out).mono ?_
  rintro _ W3 ⟨rfl, rfl⟩
  go_wp2_with fail
  go_quiet (first | (go_at_call_of 49 ll; refine Calls.quiet_of_same (Hnd.out _ ?_); exact (Lies.below (g_drewN g_refl _) HL.out.2.1)) | (go_at_call_of 49 lr; refine Calls.quiet_of_same (Hfd.out _ ?_); exact (Lies.below (g_drewN g_refl _) HL.out.2.2)))
  go_wp2_with fail
  have HA := hid (Lies.below (g_drew (g_drewN g_refl nq)) (HL.out.2.1))
  have HC := hid (Lies.below (g_drew (g_drewN g_refl nq)) (HL.out.2.2))
  have HO := hid (HR.out.below (g_drew (g_drewN g_refl nq)))
  have hS := keep6 (g_drew (g_drewN g_refl nq)) HS0.out
  have HB3 : Hid (Below q w (W3.drewN nq).drew) := hid (by have h := HE.out; subst h; exact g_trans HB.out (g_drew (g_drewN g_refl nq)))
  clear HL HR HS0 HB s2 s3
  generalize hX : W3.drewN nq = X at *
  clear hX
  go_region_held3 (fun w' => w'.cell? ⟨bl, 0, none⟩ = some (.int .i64 lk) ∧ w'.cell? ⟨bl, 1, none⟩ = some (.int .i64 lv) ∧ w'.cell? ⟨bl, 2, none⟩ = some (.pointer ll.ad) ∧ w'.cell? ⟨bl, 3, none⟩ = some (.pointer lr.ad) ∧ w'.cell? ⟨q, 0, none⟩ = some (.int .i64 k) ∧ w'.cell? ⟨q, 1, none⟩ = some (.int .i64 v)) (first | with_reducible assumption | exact keep6 (by with_reducible assumption) (by with_reducible assumption))
    (first | (go_at_call_of 50 lk; (with_reducible refine Calls.mono (tree_any _ _ _ _ _ (HA.out.below hb1) (hT1) ?_) ?_); (obtain ⟨_, e1⟩ := hp1; rw [e1, Tr.sz_node]; have := HS.out; omega); rintro _ w2 ⟨T2, rfl, hT2, hp2, hb2⟩) | (go_at_call_of 50 k; (with_reducible refine Calls.mono (tree_any _ _ _ _ _ (HC.out) (HO.out) ?_) ?_); (have := HS.out; omega); rintro _ w1 ⟨T1, rfl, hT1, hp1, hb1⟩))
  all_goals go_wp2
  all_goals go_ret
  all_goals
    obtain ⟨_, rfl⟩ := hp1
    obtain ⟨_, rfl⟩ := hp2
    have h := HE.out
    subst h
    exact ⟨_, rfl, hT2, HP.out _ _, g_trans (g_trans HB3.out hb1) hb2⟩

set_option maxRecDepth 20000 in
set_option maxHeartbeats 2000000 in
theorem bal_a2 (ll R ml mr : Tr Int) (bl bm : Nat) (lk k mk : Int) (lv v mv : Int) (w : World) (hl : Lies w (Tr.node bl ll lk lv (Tr.node bm ml mk mv mr))) (hr : Lies w R) (hs : ll.sz + R.sz + ml.sz + mr.sz ≤ 5000000)
    (h1 : (Tr.node bl ll lk lv (Tr.node bm ml mk mv mr)).Bal) (h2 : R.Bal) (h3 : (Tr.node bl ll lk lv (Tr.node bm ml mk mv mr)).dp = R.dp + 2) (h4 : ll.dp < (Tr.node bm ml mk mv mr).dp) :
    Calls Try.prog 51 #[.pointer (some ⟨bl, 0, none⟩), .agg #[.int .i64 k, (.int .i64 v)], .pointer R.ad] w (Gives w (BalP (Tr.node bl ll lk lv (Tr.node bm ml mk mv mr)) k v R)) := by
  have HP := hid (fun b1 b2 b3 => balp_a2 (k := k) (v := v) (b1 := b1) (b2 := b2) (b3 := b3) h1 h2 h3 h4)
  have hB : Below w.heap.size w (w.alloc (.cells #[.int .i64 k, (.int .i64 v)] 50)) := g_alloc g_refl _
  have HL := hid (hl.below hB)
  have HR := hid (hr.below hB)
  have HB := hid hB
  have d2 := R.dp_sz
  have HS := hid hs
  obtain ⟨d, hd⟩ : ∃ d, R.dp = d := ⟨_, rfl⟩
  obtain ⟨x, hx⟩ : ∃ x, ll.dp = x := ⟨_, rfl⟩
  obtain ⟨y, hy⟩ : ∃ y, (Tr.node bm ml mk mv mr).dp = y := ⟨_, rfl⟩
  have q1 : (0 : Int) ≤ (d : Int) := by omega
  have q2 : (d : Int) ≤ 5000000 := by omega
  have q3 : (d : Int) + 2 - (d : Int) = 2 := by omega
  have q4 : (x : Int) < (y : Int) := by omega
  have HLd := hid (fun W (h : Lies W (Tr.node bl ll lk lv (Tr.node bm ml mk mv mr))) => show Calls Try.prog 49 #[.pointer (some ⟨bl, 0, none⟩)] W fun e w' => e = .returned (.int .i64 ((d : Int) + 2)) ∧ w' = W by have q := levels_any _ W h; rw [show ((Tr.node bl ll lk lv (Tr.node bm ml mk mv mr)).dp : Int) = ((d : Int) + 2) by omega] at q; exact q)
  have HRd := hid (fun W (h : Lies W R) => show Calls Try.prog 49 #[.pointer R.ad] W fun e w' => e = .returned (.int .i64 (d : Int)) ∧ w' = W by have q := levels_any _ W h; rw [show (R.dp : Int) = (d : Int) by omega] at q; exact q)
  have Hnd := hid (fun W (h : Lies W ll) => show Calls Try.prog 49 #[.pointer ll.ad] W fun e w' => e = .returned (.int .i64 (x : Int)) ∧ w' = W by have q := levels_any _ W h; rw [show (ll.dp : Int) = (x : Int) by omega] at q; exact q)
  have Hfd := hid (fun W (h : Lies W (Tr.node bm ml mk mv mr)) => show Calls Try.prog 49 #[.pointer (some ⟨bm, 0, none⟩)] W fun e w' => e = .returned (.int .i64 (y : Int)) ∧ w' = W by have q := levels_any _ W h; rw [show ((Tr.node bm ml mk mv mr).dp : Int) = (y : Int) by omega] at q; exact q)
  clear hl hr hs hB d2 h1 h2 h3 h4 hd hx hy
  go_enter Try.func51, Try.ntmps51
  go_wp2_with fail
  have hbx := box2 w (.int .i64 k) (.int .i64 v) 50
  generalize hW : (w.alloc (.cells #[.int .i64 k, (.int .i64 v)] 50)) = W1 at *
  generalize hq : w.heap.size = q at *
  have HE := hid hq
  obtain ⟨s0, s1, s2, s3, s4, s5⟩ := HL.out.six
  replace s3 : W1.cell? ⟨bl, 3, none⟩ = some (.pointer (some ⟨bm, 0, none⟩)) := s3
  obtain ⟨m0, m1, m2, m3, m4, m5⟩ := Lies.six HL.out.2.2
  have hS : W1.cell? ⟨bl, 0, none⟩ = some (.int .i64 lk) ∧ W1.cell? ⟨bl, 1, none⟩ = some (.int .i64 lv) ∧ W1.cell? ⟨bl, 2, none⟩ = some (.pointer ll.ad) ∧ W1.cell? ⟨bl, 3, none⟩ = some (.pointer (some ⟨bm, 0, none⟩)) ∧ W1.cell? ⟨bm, 0, none⟩ = some (.int .i64 mk) ∧ W1.cell? ⟨bm, 1, none⟩ = some (.int .i64 mv) ∧ W1.cell? ⟨bm, 2, none⟩ = some (.pointer ml.ad) ∧ W1.cell? ⟨bm, 3, none⟩ = some (.pointer mr.ad) ∧ W1.cell? ⟨q, 0, none⟩ = some (.int .i64 k) ∧ W1.cell? ⟨q, 1, none⟩ = some (.int .i64 v) := ⟨s0, s1, s2, s3, m0, m1, m2, m3, hbx.1, hbx.2⟩
  have HS0 := hid hS
  clear hW hq s0 s1 s4 s5 hbx hS m0 m1 m2 m3 m4 m5
  refine (HLd.out _ HL.out).mono ?_
  rintro _ W2 ⟨rfl, rfl⟩
  go_wp2_with fail
  refine (HRd.out _ HR.out).mono ?_
  rintro _ W3 ⟨rfl, rfl⟩
  go_wp2_with fail
  go_quiet (first | (go_at_call_of 49 ll; refine Calls.quiet_of_same (Hnd.out _ ?_); exact (Lies.below (g_drewN g_refl _) HL.out.2.1)) | (go_at_call_of 49 bm; refine Calls.quiet_of_same (Hfd.out _ ?_); exact (Lies.below (g_drewN g_refl _) HL.out.2.2)))
  go_wp2_with fail
  have HA := hid (Lies.below (g_drew (g_drewN g_refl nq)) (HL.out.2.1))
  have HM := hid (Lies.below (g_drew (g_drewN g_refl nq)) (Lies.left (HL.out.2.2)))
  have HN := hid (Lies.below (g_drew (g_drewN g_refl nq)) (Lies.right (HL.out.2.2)))
  have HO := hid (HR.out.below (g_drew (g_drewN g_refl nq)))
  have hS := keep10 (g_drew (g_drewN g_refl nq)) HS0.out
  have HB3 : Hid (Below q w (W3.drewN nq).drew) := hid (by have h := HE.out; subst h; exact g_trans HB.out (g_drew (g_drewN g_refl nq)))
  clear HL HR HS0 HB s2 s3
  generalize hX : W3.drewN nq = X at *
  clear hX
  go_region_held3 (fun w' => w'.cell? ⟨bl, 0, none⟩ = some (.int .i64 lk) ∧ w'.cell? ⟨bl, 1, none⟩ = some (.int .i64 lv) ∧ w'.cell? ⟨bl, 2, none⟩ = some (.pointer ll.ad) ∧ w'.cell? ⟨bl, 3, none⟩ = some (.pointer (some ⟨bm, 0, none⟩)) ∧ w'.cell? ⟨bm, 0, none⟩ = some (.int .i64 mk) ∧ w'.cell? ⟨bm, 1, none⟩ = some (.int .i64 mv) ∧ w'.cell? ⟨bm, 2, none⟩ = some (.pointer ml.ad) ∧ w'.cell? ⟨bm, 3, none⟩ = some (.pointer mr.ad) ∧ w'.cell? ⟨q, 0, none⟩ = some (.int .i64 k) ∧ w'.cell? ⟨q, 1, none⟩ = some (.int .i64 v)) (first | with_reducible assumption | exact keep10 (by with_reducible assumption) (by with_reducible assumption))
    (first | (go_at_call_of 50 mk; (with_reducible refine Calls.mono (tree_any _ _ _ _ _ (by first | with_reducible exact hT1 | with_reducible exact hT1.below hb2) (by first | with_reducible exact hT2 | with_reducible exact hT2.below hb1) ?_) ?_); (obtain ⟨_, e1⟩ := hp1; obtain ⟨_, e2⟩ := hp2; rw [e1, e2, Tr.sz_node, Tr.sz_node]; have := HS.out; omega); rintro _ w3 ⟨T3, rfl, hT3, hp3, hb3⟩) | (go_at_call_of 50 lk; (with_reducible refine Calls.mono (tree_any _ _ _ _ _ (by first | with_reducible exact HA.out | with_reducible exact HA.out.below hb2) (by first | with_reducible exact HM.out | with_reducible exact HM.out.below hb2) ?_) ?_); (have := HS.out; omega); rintro _ w1 ⟨T1, rfl, hT1, hp1, hb1⟩) | (go_at_call_of 50 k; (with_reducible refine Calls.mono (tree_any _ _ _ _ _ (by first | with_reducible exact HN.out | with_reducible exact HN.out.below hb1) (by first | with_reducible exact HO.out | with_reducible exact HO.out.below hb1) ?_) ?_); (have := HS.out; omega); rintro _ w2 ⟨T2, rfl, hT2, hp2, hb2⟩))
  all_goals go_wp2
  all_goals go_ret
  all_goals
    obtain ⟨_, rfl⟩ := hp1
    obtain ⟨_, rfl⟩ := hp2
    obtain ⟨_, rfl⟩ := hp3
    have h := HE.out
    subst h
    exact ⟨_, rfl, hT3, HP.out _ _ _, by first | with_reducible exact g_trans (g_trans (g_trans HB3.out hb1) hb2) hb3 | with_reducible exact g_trans (g_trans (g_trans HB3.out hb2) hb1) hb3⟩

set_option maxRecDepth 20000 in
set_option maxHeartbeats 2000000 in
theorem bal_b1 (rr L rl : Tr Int) (br : Nat) (rk k : Int) (rv v : Int) (w : World) (hl : Lies w L) (hr : Lies w (Tr.node br rl rk rv rr)) (hs : rr.sz + L.sz + rl.sz ≤ 5000000)
    (h1 : L.Bal) (h2 : (Tr.node br rl rk rv rr).Bal) (h3 : (Tr.node br rl rk rv rr).dp = L.dp + 2) (h4 : rl.dp ≤ rr.dp) :
    Calls Try.prog 51 #[.pointer L.ad, .agg #[.int .i64 k, (.int .i64 v)], .pointer (some ⟨br, 0, none⟩)] w (Gives w (BalP L k v (Tr.node br rl rk rv rr))) := by
  have HP := hid (fun b1 b2 => balp_b1 (k := k) (v := v) (b1 := b1) (b2 := b2) h1 h2 h3 h4)
  have hB : Below w.heap.size w (w.alloc (.cells #[.int .i64 k, (.int .i64 v)] 50)) := g_alloc g_refl _
  have HL := hid (hl.below hB)
  have HR := hid (hr.below hB)
  have HB := hid hB
  have d2 := L.dp_sz
  have HS := hid hs
  obtain ⟨d, hd⟩ : ∃ d, L.dp = d := ⟨_, rfl⟩
  obtain ⟨x, hx⟩ : ∃ x, rr.dp = x := ⟨_, rfl⟩
  obtain ⟨y, hy⟩ : ∃ y, rl.dp = y := ⟨_, rfl⟩
  have q1 : (0 : Int) ≤ (d : Int) := by omega
  have q2 : (d : Int) ≤ 5000000 := by omega
  have q3 : (d : Int) - ((d : Int) + 2) = -2 := by omega
  have q4 : (y : Int) ≤ (x : Int) := by omega
  have HLd := hid (fun W (h : Lies W L) => show Calls Try.prog 49 #[.pointer L.ad] W fun e w' => e = .returned (.int .i64 (d : Int)) ∧ w' = W by have q := levels_any _ W h; rw [show (L.dp : Int) = (d : Int) by omega] at q; exact q)
  have HRd := hid (fun W (h : Lies W (Tr.node br rl rk rv rr)) => show Calls Try.prog 49 #[.pointer (some ⟨br, 0, none⟩)] W fun e w' => e = .returned (.int .i64 ((d : Int) + 2)) ∧ w' = W by have q := levels_any _ W h; rw [show ((Tr.node br rl rk rv rr).dp : Int) = ((d : Int) + 2) by omega] at q; exact q)
  have Hnd := hid (fun W (h : Lies W rr) => show Calls Try.prog 49 #[.pointer rr.ad] W fun e w' => e = .returned (.int .i64 (x : Int)) ∧ w' = W by have q := levels_any _ W h; rw [show (rr.dp : Int) = (x : Int) by omega] at q; exact q)
  have Hfd := hid (fun W (h : Lies W rl) => show Calls Try.prog 49 #[.pointer rl.ad] W fun e w' => e = .returned (.int .i64 (y : Int)) ∧ w' = W by have q := levels_any _ W h; rw [show (rl.dp : Int) = (y : Int) by omega] at q; exact q)
  clear hl hr hs hB d2 h1 h2 h3 h4 hd hx hy
  go_enter Try.func51, Try.ntmps51
  go_wp2_with fail
  have hbx := box2 w (.int .i64 k) (.int .i64 v) 50
  generalize hW : (w.alloc (.cells #[.int .i64 k, (.int .i64 v)] 50)) = W1 at *
  generalize hq : w.heap.size = q at *
  have HE := hid hq
  obtain ⟨s0, s1, s2, s3, s4, s5⟩ := HR.out.six
  have hS : W1.cell? ⟨br, 0, none⟩ = some (.int .i64 rk) ∧ W1.cell? ⟨br, 1, none⟩ = some (.int .i64 rv) ∧ W1.cell? ⟨br, 2, none⟩ = some (.pointer rl.ad) ∧ W1.cell? ⟨br, 3, none⟩ = some (.pointer rr.ad) ∧ W1.cell? ⟨q, 0, none⟩ = some (.int .i64 k) ∧ W1.cell? ⟨q, 1, none⟩ = some (.int .i64 v) := ⟨s0, s1, s2, s3, hbx.1, hbx.2⟩
  have HS0 := hid hS
  clear hW hq s0 s1 s4 s5 hbx hS
  refine (HLd.out _ HL.out).mono ?_
  rintro _ W2 ⟨rfl, rfl⟩
  go_wp2_with fail
  refine (HRd.out _ HR.out).mono ?_
  rintro _ W3 ⟨rfl, rfl⟩
  go_wp2_with fail
  go_quiet (fail)
  go_wp2_with fail
  generalize hY : W3.drewN nq = Y at *
  have HLY := hid (show Lies Y _ by rw [← hY]; exact HL.out.below (g_drewN g_refl nq))
  have HRY := hid (show Lies Y _ by rw [← hY]; exact HR.out.below (g_drewN g_refl nq))
  have HSY := hid (show Y.cell? ⟨br, 0, none⟩ = some (.int .i64 rk) ∧ Y.cell? ⟨br, 1, none⟩ = some (.int .i64 rv) ∧ Y.cell? ⟨br, 2, none⟩ = some (.pointer rl.ad) ∧ Y.cell? ⟨br, 3, none⟩ = some (.pointer rr.ad) ∧ Y.cell? ⟨q, 0, none⟩ = some (.int .i64 k) ∧ Y.cell? ⟨q, 1, none⟩ = some (.int .i64 v) by rw [← hY]; exact keep6 (g_drewN g_refl nq) HS0.out)
  have HBY := hid (show Below q w Y by have h := HE.out; subst h; rw [← hY]; exact g_trans HB.out (g_drewN g_refl nq))
  clear hY HL HR HS0 HB s2 s3
  obtain ⟨s0, s1, s2, s3, -⟩ := id HSY.out
  clear s0 s1
  go_quiet (first | (go_at_call_of 49 rr; refine Calls.quiet_of_same (Hnd.out _ ?_); exact (Lies.below (g_drewN g_refl _) HRY.out.2.2)) | (go_at_call_of 49 rl; refine Calls.quiet_of_same (Hfd.out _ ?_); exact (Lies.below (g_drewN g_refl _) HRY.out.2.1)))
  go_wp2_with fail
  have HA := hid (Lies.below (g_drew (g_drewN g_refl nq)) (HRY.out.2.2))
  have HC := hid (Lies.below (g_drew (g_drewN g_refl nq)) (HRY.out.2.1))
  have HO := hid (HLY.out.below (g_drew (g_drewN g_refl nq)))
  have hS := keep6 (g_drew (g_drewN g_refl nq)) HSY.out
  have HB3 : Hid (Below q w (Y.drewN nq).drew) := hid (by have h := HE.out; subst h; exact g_trans HBY.out (g_drew (g_drewN g_refl nq)))
  clear HLY HRY HSY HBY s2 s3
  generalize hX : Y.drewN nq = X at *
  clear hX
  go_region_held3 (fun w' => w'.cell? ⟨br, 0, none⟩ = some (.int .i64 rk) ∧ w'.cell? ⟨br, 1, none⟩ = some (.int .i64 rv) ∧ w'.cell? ⟨br, 2, none⟩ = some (.pointer rl.ad) ∧ w'.cell? ⟨br, 3, none⟩ = some (.pointer rr.ad) ∧ w'.cell? ⟨q, 0, none⟩ = some (.int .i64 k) ∧ w'.cell? ⟨q, 1, none⟩ = some (.int .i64 v)) (first | with_reducible assumption | exact keep6 (by with_reducible assumption) (by with_reducible assumption))
    (first | (go_at_call_of 50 rk; (with_reducible refine Calls.mono (tree_any _ _ _ _ _ (hT1) (HA.out.below hb1) ?_) ?_); (obtain ⟨_, e1⟩ := hp1; rw [e1, Tr.sz_node]; have := HS.out; omega); rintro _ w2 ⟨T2, rfl, hT2, hp2, hb2⟩) | (go_at_call_of 50 k; (with_reducible refine Calls.mono (tree_any _ _ _ _ _ (HO.out) (HC.out) ?_) ?_); (have := HS.out; omega); rintro _ w1 ⟨T1, rfl, hT1, hp1, hb1⟩))
  all_goals go_wp2
  all_goals go_ret
  all_goals
    obtain ⟨_, rfl⟩ := hp1
    obtain ⟨_, rfl⟩ := hp2
    have h := HE.out
    subst h
    exact ⟨_, rfl, hT2, HP.out _ _, g_trans (g_trans HB3.out hb1) hb2⟩

set_option maxRecDepth 20000 in
set_option maxHeartbeats 2000000 in
theorem bal_b2 (rr L ml mr : Tr Int) (br bm : Nat) (rk k mk : Int) (rv v mv : Int) (w : World) (hl : Lies w L) (hr : Lies w (Tr.node br (Tr.node bm ml mk mv mr) rk rv rr)) (hs : rr.sz + L.sz + ml.sz + mr.sz ≤ 5000000)
    (h1 : L.Bal) (h2 : (Tr.node br (Tr.node bm ml mk mv mr) rk rv rr).Bal) (h3 : (Tr.node br (Tr.node bm ml mk mv mr) rk rv rr).dp = L.dp + 2) (h4 : rr.dp < (Tr.node bm ml mk mv mr).dp) :
    Calls Try.prog 51 #[.pointer L.ad, .agg #[.int .i64 k, (.int .i64 v)], .pointer (some ⟨br, 0, none⟩)] w (Gives w (BalP L k v (Tr.node br (Tr.node bm ml mk mv mr) rk rv rr))) := by
  have HP := hid (fun b1 b2 b3 => balp_b2 (k := k) (v := v) (b1 := b1) (b2 := b2) (b3 := b3) h1 h2 h3 h4)
  have hB : Below w.heap.size w (w.alloc (.cells #[.int .i64 k, (.int .i64 v)] 50)) := g_alloc g_refl _
  have HL := hid (hl.below hB)
  have HR := hid (hr.below hB)
  have HB := hid hB
  have d2 := L.dp_sz
  have HS := hid hs
  obtain ⟨d, hd⟩ : ∃ d, L.dp = d := ⟨_, rfl⟩
  obtain ⟨x, hx⟩ : ∃ x, rr.dp = x := ⟨_, rfl⟩
  obtain ⟨y, hy⟩ : ∃ y, (Tr.node bm ml mk mv mr).dp = y := ⟨_, rfl⟩
  have q1 : (0 : Int) ≤ (d : Int) := by omega
  have q2 : (d : Int) ≤ 5000000 := by omega
  have q3 : (d : Int) - ((d : Int) + 2) = -2 := by omega
  have q4 : (x : Int) < (y : Int) := by omega
  have HLd := hid (fun W (h : Lies W L) => show Calls Try.prog 49 #[.pointer L.ad] W fun e w' => e = .returned (.int .i64 (d : Int)) ∧ w' = W by have q := levels_any _ W h; rw [show (L.dp : Int) = (d : Int) by omega] at q; exact q)
  have HRd := hid (fun W (h : Lies W (Tr.node br (Tr.node bm ml mk mv mr) rk rv rr)) => show Calls Try.prog 49 #[.pointer (some ⟨br, 0, none⟩)] W fun e w' => e = .returned (.int .i64 ((d : Int) + 2)) ∧ w' = W by have q := levels_any _ W h; rw [show ((Tr.node br (Tr.node bm ml mk mv mr) rk rv rr).dp : Int) = ((d : Int) + 2) by omega] at q; exact q)
  have Hnd := hid (fun W (h : Lies W rr) => show Calls Try.prog 49 #[.pointer rr.ad] W fun e w' => e = .returned (.int .i64 (x : Int)) ∧ w' = W by have q := levels_any _ W h; rw [show (rr.dp : Int) = (x : Int) by omega] at q; exact q)
  have Hfd := hid (fun W (h : Lies W (Tr.node bm ml mk mv mr)) => show Calls Try.prog 49 #[.pointer (some ⟨bm, 0, none⟩)] W fun e w' => e = .returned (.int .i64 (y : Int)) ∧ w' = W by have q := levels_any _ W h; rw [show ((Tr.node bm ml mk mv mr).dp : Int) = (y : Int) by omega] at q; exact q)
  clear hl hr hs hB d2 h1 h2 h3 h4 hd hx hy
  go_enter Try.func51, Try.ntmps51
  go_wp2_with fail
  have hbx := box2 w (.int .i64 k) (.int .i64 v) 50
  generalize hW : (w.alloc (.cells #[.int .i64 k, (.int .i64 v)] 50)) = W1 at *
  generalize hq : w.heap.size = q at *
  have HE := hid hq
  obtain ⟨s0, s1, s2, s3, s4, s5⟩ := HR.out.six
  replace s2 : W1.cell? ⟨br, 2, none⟩ = some (.pointer (some ⟨bm, 0, none⟩)) := s2
  obtain ⟨m0, m1, m2, m3, m4, m5⟩ := Lies.six HR.out.2.1
  have hS : W1.cell? ⟨br, 0, none⟩ = some (.int .i64 rk) ∧ W1.cell? ⟨br, 1, none⟩ = some (.int .i64 rv) ∧ W1.cell? ⟨br, 2, none⟩ = some (.pointer (some ⟨bm, 0, none⟩)) ∧ W1.cell? ⟨br, 3, none⟩ = some (.pointer rr.ad) ∧ W1.cell? ⟨bm, 0, none⟩ = some (.int .i64 mk) ∧ W1.cell? ⟨bm, 1, none⟩ = some (.int .i64 mv) ∧ W1.cell? ⟨bm, 2, none⟩ = some (.pointer ml.ad) ∧ W1.cell? ⟨bm, 3, none⟩ = some (.pointer mr.ad) ∧ W1.cell? ⟨q, 0, none⟩ = some (.int .i64 k) ∧ W1.cell? ⟨q, 1, none⟩ = some (.int .i64 v) := ⟨s0, s1, s2, s3, m0, m1, m2, m3, hbx.1, hbx.2⟩
  have HS0 := hid hS
  clear hW hq s0 s1 s4 s5 hbx hS m0 m1 m2 m3 m4 m5
  refine (HLd.out _ HL.out).mono ?_
  rintro _ W2 ⟨rfl, rfl⟩
  go_wp2_with fail
  refine (HRd.out _ HR.out).mono ?_
  rintro _ W3 ⟨rfl, rfl⟩
  go_wp2_with fail
  go_quiet (fail)
  go_wp2_with fail
  generalize hY : W3.drewN nq = Y at *
  have HLY := hid (show Lies Y _ by rw [← hY]; exact HL.out.below (g_drewN g_refl nq))
  have HRY := hid (show Lies Y _ by rw [← hY]; exact HR.out.below (g_drewN g_refl nq))
  have HSY := hid (show Y.cell? ⟨br, 0, none⟩ = some (.int .i64 rk) ∧ Y.cell? ⟨br, 1, none⟩ = some (.int .i64 rv) ∧ Y.cell? ⟨br, 2, none⟩ = some (.pointer (some ⟨bm, 0, none⟩)) ∧ Y.cell? ⟨br, 3, none⟩ = some (.pointer rr.ad) ∧ Y.cell? ⟨bm, 0, none⟩ = some (.int .i64 mk) ∧ Y.cell? ⟨bm, 1, none⟩ = some (.int .i64 mv) ∧ Y.cell? ⟨bm, 2, none⟩ = some (.pointer ml.ad) ∧ Y.cell? ⟨bm, 3, none⟩ = some (.pointer mr.ad) ∧ Y.cell? ⟨q, 0, none⟩ = some (.int .i64 k) ∧ Y.cell? ⟨q, 1, none⟩ = some (.int .i64 v) by rw [← hY]; exact keep10 (g_drewN g_refl nq) HS0.out)
  have HBY := hid (show Below q w Y by have h := HE.out; subst h; rw [← hY]; exact g_trans HB.out (g_drewN g_refl nq))
  clear hY HL HR HS0 HB s2 s3
  obtain ⟨s0, s1, s2, s3, -⟩ := id HSY.out
  clear s0 s1
  go_quiet (first | (go_at_call_of 49 rr; refine Calls.quiet_of_same (Hnd.out _ ?_); exact (Lies.below (g_drewN g_refl _) HRY.out.2.2)) | (go_at_call_of 49 bm; refine Calls.quiet_of_same (Hfd.out _ ?_); exact (Lies.below (g_drewN g_refl _) HRY.out.2.1)))
  go_wp2_with fail
  have HA := hid (Lies.below (g_drew (g_drewN g_refl nq)) (HRY.out.2.2))
  have HM := hid (Lies.below (g_drew (g_drewN g_refl nq)) (Lies.left (HRY.out.2.1)))
  have HN := hid (Lies.below (g_drew (g_drewN g_refl nq)) (Lies.right (HRY.out.2.1)))
  have HO := hid (HLY.out.below (g_drew (g_drewN g_refl nq)))
  have hS := keep10 (g_drew (g_drewN g_refl nq)) HSY.out
  have HB3 : Hid (Below q w (Y.drewN nq).drew) := hid (by have h := HE.out; subst h; exact g_trans HBY.out (g_drew (g_drewN g_refl nq)))
  clear HLY HRY HSY HBY s2 s3
  generalize hX : Y.drewN nq = X at *
  clear hX
  go_region_held3 (fun w' => w'.cell? ⟨br, 0, none⟩ = some (.int .i64 rk) ∧ w'.cell? ⟨br, 1, none⟩ = some (.int .i64 rv) ∧ w'.cell? ⟨br, 2, none⟩ = some (.pointer (some ⟨bm, 0, none⟩)) ∧ w'.cell? ⟨br, 3, none⟩ = some (.pointer rr.ad) ∧ w'.cell? ⟨bm, 0, none⟩ = some (.int .i64 mk) ∧ w'.cell? ⟨bm, 1, none⟩ = some (.int .i64 mv) ∧ w'.cell? ⟨bm, 2, none⟩ = some (.pointer ml.ad) ∧ w'.cell? ⟨bm, 3, none⟩ = some (.pointer mr.ad) ∧ w'.cell? ⟨q, 0, none⟩ = some (.int .i64 k) ∧ w'.cell? ⟨q, 1, none⟩ = some (.int .i64 v)) (first | with_reducible assumption | exact keep10 (by with_reducible assumption) (by with_reducible assumption))
    (first | (go_at_call_of 50 mk; (with_reducible refine Calls.mono (tree_any _ _ _ _ _ (by first | with_reducible exact hT1 | with_reducible exact hT1.below hb2) (by first | with_reducible exact hT2 | with_reducible exact hT2.below hb1) ?_) ?_); (obtain ⟨_, e1⟩ := hp1; obtain ⟨_, e2⟩ := hp2; rw [e1, e2, Tr.sz_node, Tr.sz_node]; have := HS.out; omega); rintro _ w3 ⟨T3, rfl, hT3, hp3, hb3⟩) | (go_at_call_of 50 rk; (with_reducible refine Calls.mono (tree_any _ _ _ _ _ (by first | with_reducible exact HN.out | with_reducible exact HN.out.below hb1) (by first | with_reducible exact HA.out | with_reducible exact HA.out.below hb1) ?_) ?_); (have := HS.out; omega); rintro _ w2 ⟨T2, rfl, hT2, hp2, hb2⟩) | (go_at_call_of 50 k; (with_reducible refine Calls.mono (tree_any _ _ _ _ _ (by first | with_reducible exact HO.out | with_reducible exact HO.out.below hb2) (by first | with_reducible exact HM.out | with_reducible exact HM.out.below hb2) ?_) ?_); (have := HS.out; omega); rintro _ w1 ⟨T1, rfl, hT1, hp1, hb1⟩))
  all_goals go_wp2
  all_goals go_ret
  all_goals
    obtain ⟨_, rfl⟩ := hp1
    obtain ⟨_, rfl⟩ := hp2
    obtain ⟨_, rfl⟩ := hp3
    have h := HE.out
    subst h
    exact ⟨_, rfl, hT3, HP.out _ _ _, by first | with_reducible exact g_trans (g_trans (g_trans HB3.out hb1) hb2) hb3 | with_reducible exact g_trans (g_trans (g_trans HB3.out hb2) hb1) hb3⟩

set_option maxRecDepth 20000 in
set_option maxHeartbeats 2000000 in
theorem bal_c (L R : Tr Int) (k : Int) (v : Int) (w : World) (hl : Lies w L) (hr : Lies w R) (hs : L.sz + R.sz ≤ 5000000) (h1 : L.Bal) (h2 : R.Bal) (h3 : L.dp ≤ R.dp + 1) (h4 : R.dp ≤ L.dp + 1) :
    Calls Try.prog 51 #[.pointer L.ad, .agg #[.int .i64 k, (.int .i64 v)], .pointer R.ad] w (Gives w (BalP L k v R)) := by
  have HP := hid (fun b => balp_c (k := k) (v := v) (b := b) h1 h2 h3 h4)
  have hB : Below w.heap.size w (w.alloc (.cells #[.int .i64 k, (.int .i64 v)] 50)) := g_alloc g_refl _
  have HL := hid (hl.below hB)
  have HR := hid (hr.below hB)
  have HB := hid hB
  have d1 := L.dp_sz
  have d2 := R.dp_sz
  have HS := hid hs
  obtain ⟨x, hx⟩ : ∃ x, L.dp = x := ⟨_, rfl⟩
  obtain ⟨y, hy⟩ : ∃ y, R.dp = y := ⟨_, rfl⟩
  obtain ⟨e, he⟩ : ∃ e : Int, (x : Int) - (y : Int) = e := ⟨_, rfl⟩
  have q1 : decide ((1 : Int) < e) = false := by simp; omega
  have q2 : decide (e < (-1 : Int)) = false := by simp; omega
  have HLd := hid (fun W (h : Lies W L) => show Calls Try.prog 49 #[.pointer L.ad] W fun e w' => e = .returned (.int .i64 (x : Int)) ∧ w' = W by have q := levels_any _ W h; rw [show (L.dp : Int) = (x : Int) by omega] at q; exact q)
  have HRd := hid (fun W (h : Lies W R) => show Calls Try.prog 49 #[.pointer R.ad] W fun e w' => e = .returned (.int .i64 (y : Int)) ∧ w' = W by have q := levels_any _ W h; rw [show (R.dp : Int) = (y : Int) by omega] at q; exact q)
  have q3 : (0 : Int) ≤ (x : Int) := by omega
  have q4 : (0 : Int) ≤ (y : Int) := by omega
  have q5 : (x : Int) ≤ 5000000 := by omega
  have q6 : (y : Int) ≤ 5000000 := by omega
  clear hl hr hs hB d1 d2 h1 h2 h3 h4 hx hy
  go_enter Try.func51, Try.ntmps51
  go_wp2_with fail
  have hbx := box2 w (.int .i64 k) (.int .i64 v) 50
  generalize hW : (w.alloc (.cells #[.int .i64 k, (.int .i64 v)] 50)) = W1 at *
  generalize hq : w.heap.size = q at *
  have HE := hid hq
  have HX := hid hbx
  clear hW hq hbx
  refine (HLd.out _ HL.out).mono ?_
  rintro _ W2 ⟨rfl, rfl⟩
  go_wp2_with fail
  refine (HRd.out _ HR.out).mono ?_
  rintro _ W3 ⟨rfl, rfl⟩
  go_wp2_with fail
  go_quiet (fail)
  generalize hY : W3.drewN nq = Y at *
  have HLY := hid (show Lies Y _ by rw [← hY]; exact HL.out.below (g_drewN g_refl nq))
  have HRY := hid (show Lies Y _ by rw [← hY]; exact HR.out.below (g_drewN g_refl nq))
  have HXY := hid (show Y.cell? ⟨q, 0, none⟩ = some (.int .i64 k) ∧ Y.cell? ⟨q, 1, none⟩ = some (.int .i64 v) by rw [← hY]; exact HX.out)
  have HBY := hid (show Below q w Y by have h := HE.out; subst h; rw [← hY]; exact g_trans HB.out (g_drewN g_refl nq))
  clear hY HL HR HX HB
  go_wp2_with fail
  go_quiet (fail)
  generalize hZ : Y.drewN nq = Z at *
  have HLZ := hid (show Lies Z _ by rw [← hZ]; exact HLY.out.below (g_drewN g_refl nq))
  have HRZ := hid (show Lies Z _ by rw [← hZ]; exact HRY.out.below (g_drewN g_refl nq))
  have hXZ : Z.cell? ⟨q, 0, none⟩ = some (.int .i64 k) ∧ Z.cell? ⟨q, 1, none⟩ = some (.int .i64 v) := by rw [← hZ]; exact HXY.out
  have HBZ := hid (show Below q w Z by have h := HE.out; subst h; rw [← hZ]; exact g_trans HBY.out (g_drewN g_refl nq))
  clear hZ HLY HRY HXY HBY
  obtain ⟨c0, c1⟩ := hXZ
  go_wp2_with fail
  refine (tree_any _ _ _ _ _ HLZ.out HRZ.out (by have := HS.out; omega)).mono ?_
  rintro _ w1 ⟨T1, rfl, hT1, hp1, hb1⟩
  go_wp2
  go_ret
  obtain ⟨_, rfl⟩ := hp1
  have h := HE.out
  subst h
  exact ⟨_, rfl, hT1, HP.out _, g_trans HBZ.out hb1⟩

theorem balance_any (L R : Tr Int) (k : Int) (v : Int) (w : World) (hl : Lies w L) (hr : Lies w R) (hs : L.sz + R.sz ≤ 4000000) (h1 : L.Bal) (h2 : R.Bal) (h3 : L.dp ≤ R.dp + 2) (h4 : R.dp ≤ L.dp + 2) :
    Calls Try.prog 51 #[.pointer L.ad, .agg #[.int .i64 k, (.int .i64 v)], .pointer R.ad] w (Gives w (BalP L k v R)) := by
  by_cases ha : L.dp = R.dp + 2
  · obtain ⟨bl, ll, lk, lv, lr, rfl⟩ := Tr.dp_pos (T := L) (by omega)
    rw [Tr.sz_node] at hs
    by_cases hm : lr.dp ≤ ll.dp
    · exact bal_a1 ll R lr bl lk k lv v w hl hr (by omega) h1 h2 ha hm
    · obtain ⟨bm, ml, mk, mv, mr, rfl⟩ := Tr.dp_pos (T := lr) (by omega)
      rw [Tr.sz_node] at hs
      exact bal_a2 ll R ml mr bl bm lk k mk lv v mv w hl hr (by omega) h1 h2 ha (by omega)
  · by_cases hb : R.dp = L.dp + 2
    · obtain ⟨br, rl, rk, rv, rr, rfl⟩ := Tr.dp_pos (T := R) (by omega)
      rw [Tr.sz_node] at hs
      by_cases hm : rl.dp ≤ rr.dp
      · exact bal_b1 rr L rl br rk k rv v w hl hr (by omega) h1 h2 hb hm
      · obtain ⟨bm, ml, mk, mv, mr, rfl⟩ := Tr.dp_pos (T := rl) (by omega)
        rw [Tr.sz_node] at hs
        exact bal_b2 rr L ml mr br bm rk k mk rv v mv w hl hr (by omega) h1 h2 hb (by omega)
    · exact bal_c L R k v w hl hr (by omega) h1 h2 (by omega) (by omega)
end Go.Proofs.Ythkceffnfhdjhaa.DI
