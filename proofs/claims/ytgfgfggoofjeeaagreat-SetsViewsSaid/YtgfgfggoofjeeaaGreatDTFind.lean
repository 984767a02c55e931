/-
  THE CONTRACT of find (keys: tuples): the order is that of tuples, or there is none and no node.
-/
import Derived.Test.YtgfgfggoofjeeaaGreatDTOps
namespace Go.Proofs.YtgfgfggoofjeeaaGreat.DT
open Go.RowKit Go.Deep

/-- the order of tuples as a function value -/
def fv : Value := .func (.func 50) #[] #[]
/-- what stands in a map's order -/
def OV (ov : Value) (T : Tr) : Prop := ov = fv ∨ (ov = .nilFunc ∧ T = .nil)
theorem cmp_e (x y : Tup) (v : Int) (w : World) (h : cmpT x y = v) :
    Calls Tryz.prog 50 #[.agg #[.string x.a, .string x.b, .string x.c, .string x.d, .string x.e, .string x.f], .agg #[.string y.a, .string y.b, .string y.c, .string y.d, .string y.e, .string y.f]] w fun e w' => e = .returned (.int .i64 v) ∧ Below w.heap.size w w' := by
  subst h; exact (tcmp x y w).mono fun _ _ h => ⟨h.1, h.2.toBelow⟩
theorem cmp_in (x y : Value) (W : World) : (callFunc 50 #[x, y]).run Tryz.prog W = .ok (.enter 50 #[x, y]) W := by kernel_rfl
theorem box2p (w : World) (a b : Value) (t : TypeId) : (w.alloc (.cells #[a, b] t (0, 0))).cell? ⟨w.heap.size, 0, none⟩ = some a ∧ (w.alloc (.cells #[a, b] t (0, 0))).cell? ⟨w.heap.size, 1, none⟩ = some b := by
  constructor <;> go_simp
theorem box6p (w : World) (k : Tup) (t : TypeId) : (w.alloc (.cells #[.string k.a, .string k.b, .string k.c, .string k.d, .string k.e, .string k.f] t (0, 0))).cell? ⟨w.heap.size, 0, none⟩ = some (.string k.a) ∧ (w.alloc (.cells #[.string k.a, .string k.b, .string k.c, .string k.d, .string k.e, .string k.f] t (0, 0))).cell? ⟨w.heap.size, 1, none⟩ = some (.string k.b) ∧ (w.alloc (.cells #[.string k.a, .string k.b, .string k.c, .string k.d, .string k.e, .string k.f] t (0, 0))).cell? ⟨w.heap.size, 2, none⟩ = some (.string k.c) ∧ (w.alloc (.cells #[.string k.a, .string k.b, .string k.c, .string k.d, .string k.e, .string k.f] t (0, 0))).cell? ⟨w.heap.size, 3, none⟩ = some (.string k.d) ∧ (w.alloc (.cells #[.string k.a, .string k.b, .string k.c, .string k.d, .string k.e, .string k.f] t (0, 0))).cell? ⟨w.heap.size, 4, none⟩ = some (.string k.e) ∧ (w.alloc (.cells #[.string k.a, .string k.b, .string k.c, .string k.d, .string k.e, .string k.f] t (0, 0))).cell? ⟨w.heap.size, 5, none⟩ = some (.string k.f) := by
  refine ⟨?_, ?_, ?_, ?_, ?_, ?_⟩ <;> go_simp
theorem keep13 {a b : World} {p0 p1 p2 p3 p4 p5 p6 p7 p8 p9 p10 p11 p12 o0 o1 o2 o3 o4 o5 o6 o7 o8 o9 o10 o11 o12 : Nat} {x0 x1 x2 x3 x4 x5 x6 x7 x8 x9 x10 x11 x12 : Value} (h : Below a.heap.size a b)
    (s : a.cell? ⟨p0, o0, none⟩ = some x0 ∧ a.cell? ⟨p1, o1, none⟩ = some x1 ∧ a.cell? ⟨p2, o2, none⟩ = some x2 ∧ a.cell? ⟨p3, o3, none⟩ = some x3 ∧ a.cell? ⟨p4, o4, none⟩ = some x4 ∧ a.cell? ⟨p5, o5, none⟩ = some x5 ∧ a.cell? ⟨p6, o6, none⟩ = some x6 ∧ a.cell? ⟨p7, o7, none⟩ = some x7 ∧ a.cell? ⟨p8, o8, none⟩ = some x8 ∧ a.cell? ⟨p9, o9, none⟩ = some x9 ∧ a.cell? ⟨p10, o10, none⟩ = some x10 ∧ a.cell? ⟨p11, o11, none⟩ = some x11 ∧ a.cell? ⟨p12, o12, none⟩ = some x12) :
    b.cell? ⟨p0, o0, none⟩ = some x0 ∧ b.cell? ⟨p1, o1, none⟩ = some x1 ∧ b.cell? ⟨p2, o2, none⟩ = some x2 ∧ b.cell? ⟨p3, o3, none⟩ = some x3 ∧ b.cell? ⟨p4, o4, none⟩ = some x4 ∧ b.cell? ⟨p5, o5, none⟩ = some x5 ∧ b.cell? ⟨p6, o6, none⟩ = some x6 ∧ b.cell? ⟨p7, o7, none⟩ = some x7 ∧ b.cell? ⟨p8, o8, none⟩ = some x8 ∧ b.cell? ⟨p9, o9, none⟩ = some x9 ∧ b.cell? ⟨p10, o10, none⟩ = some x10 ∧ b.cell? ⟨p11, o11, none⟩ = some x11 ∧ b.cell? ⟨p12, o12, none⟩ = some x12 :=
  ⟨keep1 h s.1, keep1 h s.2.1, keep1 h s.2.2.1, keep1 h s.2.2.2.1, keep1 h s.2.2.2.2.1, keep1 h s.2.2.2.2.2.1, keep1 h s.2.2.2.2.2.2.1, keep1 h s.2.2.2.2.2.2.2.1, keep1 h s.2.2.2.2.2.2.2.2.1, keep1 h s.2.2.2.2.2.2.2.2.2.1, keep1 h s.2.2.2.2.2.2.2.2.2.2.1, keep1 h s.2.2.2.2.2.2.2.2.2.2.2.1, keep1 h s.2.2.2.2.2.2.2.2.2.2.2.2⟩

set_option maxRecDepth 20000 in
set_option maxHeartbeats 2000000 in
theorem find_any (ov : Value) (T : Tr) (hv : OV ov T) (k : Tup) (w : World) (hT : Lies w T) (hs : T.sz ≤ 1000000) :
    Calls Tryz.prog 63 #[.agg #[ov, .pointer T.ad], .agg #[.string k.a, .string k.b, .string k.c, .string k.d, .string k.e, .string k.f]] w fun e w' =>
      e = .returned (.tuple #[.pointer (Tr.look k T).2.ad, .int .i64 ((Tr.look k T).1 : Nat)]) ∧ Below w.heap.size w w' ∧ Lies w' (Tr.look k T).2 := by
  have hA : Below w.heap.size w ((w.alloc (.cells #[ov, .pointer T.ad] 36 (0, 0))).alloc (.cells #[.string k.a, .string k.b, .string k.c, .string k.d, .string k.e, .string k.f] 48 (0, 0))) := g_alloc (g_alloc g_refl _) _
  have HT := hid (hT.below hA)
  have HA := hid hA
  have HS := hid hs
  have hq2 : (w.alloc (.cells #[ov, .pointer T.ad] 36 (0, 0))).heap.size = w.heap.size + 1 := by simp
  have HX := hid (keep2 (g_alloc (g_refl (a := w.alloc (.cells #[ov, .pointer T.ad] 36 (0, 0)))) (.cells #[.string k.a, .string k.b, .string k.c, .string k.d, .string k.e, .string k.f] 48 (0, 0))) (box2p w ov (.pointer T.ad) 36))
  have hY := box6p (w.alloc (.cells #[ov, .pointer T.ad] 36 (0, 0))) k 48
  rw [hq2] at hY
  have HY := hid hY
  have HV : Hid (T = .nil ∨ ov = fv) := hid (hv.elim .inr (fun h => .inl h.2))
  clear hT hs hA hY hv hq2
  go_enter Tryz.func63, Tryz.ntmps63
  go_wp2_with fail
  generalize hW : ((w.alloc (.cells #[ov, .pointer T.ad] 36 (0, 0))).alloc (.cells #[.string k.a, .string k.b, .string k.c, .string k.d, .string k.e, .string k.f] 48 (0, 0))) = W1 at *
  generalize hq : w.heap.size = q at *
  have HE := hid hq
  clear hW hq
  go_loopg [5, 6] T.sz (fun n x p wr => ∃ (S : Tr) (j : Nat), n = S.sz ∧ x = .int .i64 (j : Nat) ∧ p = .pointer S.ad ∧ j + S.sz ≤ 1000000 ∧ Tr.look k T = (j + (Tr.look k S).1, (Tr.look k S).2) ∧ Lies wr S ∧ Below W1.heap.size W1 wr ∧ (S = .nil ∨ ov = fv))
  case atStart => exact ⟨T, 0, rfl, rfl, rfl, by have := HS.out; omega, by rw [Nat.zero_add], HT.out, g_refl, HV.out⟩
  case round =>
    obtain ⟨S, j, hn, rfl, rfl, hz, hl, hS_, hw, hv⟩ := hrel
    have HN := hid hn
    have HK := hid hl
    have HW := hid hw
    have p0 : (0 : Int) ≤ (j : Int) := by omega
    have p1 : (j : Int) ≤ 1000000 := by omega
    cases S with
    | nil =>
      have HS1 := hid hS_
      clear hn hl hS_ hw hz HT HX HY hv
      show Code.wp _ _ _ { tmps := #[_, _, _, _, _, _, .pointer none, _, _, _, _, _, _, _, _, _, _, _, _, _, _, _, _, _, _, _, _, _, _, _, _, _, _, _, _, _, _, _, _, _, _, _, _, _, _, _, _, _, _, _, _, _], defers := _ } _
      go_wp2
      have h := HE.out
      subst h
      refine bodyPost_ret (v := .tuple #[.pointer none, .int .i64 (j : Nat)]) ?_ rfl ?_
      · simp [results, Tryz.results63, go_sem]
      · exact ⟨by rw [HK.out]; rfl, g_trans HA.out HW.out, by rw [HK.out]; trivial⟩
    | node b l k0 r =>
      obtain rfl : ov = fv := hv.resolve_left (fun h => nomatch h)
      simp only [fv] at *
      have hx := HX.out.1
      have hS : wr.drew.cell? ⟨q, 0, none⟩ = some (.func (.func 50) #[] #[]) ∧ wr.drew.cell? ⟨q + 1, 0, none⟩ = some (.string k.a) ∧ wr.drew.cell? ⟨q + 1, 1, none⟩ = some (.string k.b) ∧ wr.drew.cell? ⟨q + 1, 2, none⟩ = some (.string k.c) ∧ wr.drew.cell? ⟨q + 1, 3, none⟩ = some (.string k.d) ∧ wr.drew.cell? ⟨q + 1, 4, none⟩ = some (.string k.e) ∧ wr.drew.cell? ⟨q + 1, 5, none⟩ = some (.string k.f) ∧ wr.drew.cell? ⟨b, 0, none⟩ = some (.string k0.a) ∧ wr.drew.cell? ⟨b, 1, none⟩ = some (.string k0.b) ∧ wr.drew.cell? ⟨b, 2, none⟩ = some (.string k0.c) ∧ wr.drew.cell? ⟨b, 3, none⟩ = some (.string k0.d) ∧ wr.drew.cell? ⟨b, 4, none⟩ = some (.string k0.e) ∧ wr.drew.cell? ⟨b, 5, none⟩ = some (.string k0.f) := by
        obtain ⟨y0, y1, y2, y3, y4, y5⟩ := keep6 hw HY.out
        obtain ⟨z0, z1, z2, z3, z4, z5, -⟩ := hS_.six
        exact ⟨keep1 (g_drew hw) hx, y0, y1, y2, y3, y4, y5, z0, z1, z2, z3, z4, z5⟩
      have HSN := hid hS_
      have HL := hid hS_.left
      have HR := hid hS_.right
      rw [Tr.sz_node] at hz
      have HZ := hid hz
      have p2 : (0 : Int) ≤ (l.sz : Int) := by omega
      have p3 : (l.sz : Int) ≤ 1000000 := by omega
      have p4 : (j : Int) + (l.sz : Int) ≤ 1000000 := by omega
      obtain ⟨cv, hcv⟩ : ∃ cv, cmpT k k0 = cv := ⟨_, rfl⟩
      have hcmp := fun W => cmp_e k k0 cv W hcv
      have hcf := cmp_in
      have HC := hid hcv
      clear hn hl hS_ hw hz HT HX HY hcv hx
      rcases Int.lt_trichotomy cv 0 with hc | hc | hc
      · have HLT := hid hc
        show Code.wp _ _ _ { tmps := #[_, _, _, _, _, _, .pointer (some ⟨b, 0, none⟩), _, _, _, _, _, _, _, _, _, _, _, _, _, _, _, _, _, _, _, _, _, _, _, _, _, _, _, _, _, _, _, _, _, _, _, _, _, _, _, _, _, _, _, _, _], defers := _ } _
        go_wp2_with fail
        go_region_held3 (fun w' => w'.cell? ⟨q, 0, none⟩ = some (.func (.func 50) #[] #[]) ∧ w'.cell? ⟨q + 1, 0, none⟩ = some (.string k.a) ∧ w'.cell? ⟨q + 1, 1, none⟩ = some (.string k.b) ∧ w'.cell? ⟨q + 1, 2, none⟩ = some (.string k.c) ∧ w'.cell? ⟨q + 1, 3, none⟩ = some (.string k.d) ∧ w'.cell? ⟨q + 1, 4, none⟩ = some (.string k.e) ∧ w'.cell? ⟨q + 1, 5, none⟩ = some (.string k.f) ∧ w'.cell? ⟨b, 0, none⟩ = some (.string k0.a) ∧ w'.cell? ⟨b, 1, none⟩ = some (.string k0.b) ∧ w'.cell? ⟨b, 2, none⟩ = some (.string k0.c) ∧ w'.cell? ⟨b, 3, none⟩ = some (.string k0.d) ∧ w'.cell? ⟨b, 4, none⟩ = some (.string k0.e) ∧ w'.cell? ⟨b, 5, none⟩ = some (.string k0.f)) (first | with_reducible assumption | exact keep13 (by with_reducible assumption) (by with_reducible assumption))
          (first | ((with_reducible refine Calls.mono (hcmp _) ?_); rintro _ w1 ⟨rfl, hb1⟩))
        have HLY := hid ((HL.out.below (g_drew g_refl)).below hb1)
        have HRY := hid ((HR.out.below (g_drew g_refl)).below hb1)
        have HSY := hid ((HSN.out.below (g_drew g_refl)).below hb1)
        have HWY := hid (g_trans (g_drew HW.out) hb1)
        obtain ⟨-, -, -, -, -, -, s6, s7, -⟩ := HSY.out.six
        clear hS hb1 HL HR HSN HW hcmp hcf
        go_wp2
        go_roundg l.sz
        case measure => rw [HN.out, Tr.sz_node]; omega
        case rel => exact ⟨l, j, rfl, rfl, rfl, by have := HZ.out; omega, by rw [HK.out, Tr.look_lt (by rw [HC.out]; exact HLT.out)], HLY.out, HWY.out, .inr trivial⟩
      · subst hc
        show Code.wp _ _ _ { tmps := #[_, _, _, _, _, _, .pointer (some ⟨b, 0, none⟩), _, _, _, _, _, _, _, _, _, _, _, _, _, _, _, _, _, _, _, _, _, _, _, _, _, _, _, _, _, _, _, _, _, _, _, _, _, _, _, _, _, _, _, _, _], defers := _ } _
        go_wp2_with fail
        go_region_held3 (fun w' => w'.cell? ⟨q, 0, none⟩ = some (.func (.func 50) #[] #[]) ∧ w'.cell? ⟨q + 1, 0, none⟩ = some (.string k.a) ∧ w'.cell? ⟨q + 1, 1, none⟩ = some (.string k.b) ∧ w'.cell? ⟨q + 1, 2, none⟩ = some (.string k.c) ∧ w'.cell? ⟨q + 1, 3, none⟩ = some (.string k.d) ∧ w'.cell? ⟨q + 1, 4, none⟩ = some (.string k.e) ∧ w'.cell? ⟨q + 1, 5, none⟩ = some (.string k.f) ∧ w'.cell? ⟨b, 0, none⟩ = some (.string k0.a) ∧ w'.cell? ⟨b, 1, none⟩ = some (.string k0.b) ∧ w'.cell? ⟨b, 2, none⟩ = some (.string k0.c) ∧ w'.cell? ⟨b, 3, none⟩ = some (.string k0.d) ∧ w'.cell? ⟨b, 4, none⟩ = some (.string k0.e) ∧ w'.cell? ⟨b, 5, none⟩ = some (.string k0.f)) (first | with_reducible assumption | exact keep13 (by with_reducible assumption) (by with_reducible assumption))
          (first | ((with_reducible refine Calls.mono (hcmp _) ?_); rintro _ w1 ⟨rfl, hb1⟩))
        have HLY := hid ((HL.out.below (g_drew g_refl)).below hb1)
        have HRY := hid ((HR.out.below (g_drew g_refl)).below hb1)
        have HSY := hid ((HSN.out.below (g_drew g_refl)).below hb1)
        have HWY := hid (g_trans (g_drew HW.out) hb1)
        obtain ⟨-, -, -, -, -, -, s6, s7, -⟩ := HSY.out.six
        clear hS hb1 HL HR HSN HW hcmp hcf
        go_wp2_with fail
        refine (count_any l _ HLY.out).mono ?_
        rintro _ _ ⟨rfl, rfl⟩
        go_wp2
        have h := HE.out
        subst h
        refine bodyPost_ret (v := .tuple #[.pointer (some ⟨b, 0, none⟩), .int .i64 ((j : Int) + (l.sz : Int))]) ?_ rfl ?_
        · simp [results, Tryz.results63, go_sem]
        · refine ⟨?_, g_trans HA.out HWY.out, ?_⟩
          · rw [HK.out, Tr.look_eq HC.out]; simp [Tr.ad]
          · rw [HK.out, Tr.look_eq HC.out]; exact HSY.out
      · have HLT := hid hc
        have hcn : decide (cv < 0) = false := by simp; omega
        have hcp : decide ((0 : Int) < cv) = true := by simp; omega
        clear hc
        show Code.wp _ _ _ { tmps := #[_, _, _, _, _, _, .pointer (some ⟨b, 0, none⟩), _, _, _, _, _, _, _, _, _, _, _, _, _, _, _, _, _, _, _, _, _, _, _, _, _, _, _, _, _, _, _, _, _, _, _, _, _, _, _, _, _, _, _, _, _], defers := _ } _
        go_wp2_with fail
        go_region_held3 (fun w' => w'.cell? ⟨q, 0, none⟩ = some (.func (.func 50) #[] #[]) ∧ w'.cell? ⟨q + 1, 0, none⟩ = some (.string k.a) ∧ w'.cell? ⟨q + 1, 1, none⟩ = some (.string k.b) ∧ w'.cell? ⟨q + 1, 2, none⟩ = some (.string k.c) ∧ w'.cell? ⟨q + 1, 3, none⟩ = some (.string k.d) ∧ w'.cell? ⟨q + 1, 4, none⟩ = some (.string k.e) ∧ w'.cell? ⟨q + 1, 5, none⟩ = some (.string k.f) ∧ w'.cell? ⟨b, 0, none⟩ = some (.string k0.a) ∧ w'.cell? ⟨b, 1, none⟩ = some (.string k0.b) ∧ w'.cell? ⟨b, 2, none⟩ = some (.string k0.c) ∧ w'.cell? ⟨b, 3, none⟩ = some (.string k0.d) ∧ w'.cell? ⟨b, 4, none⟩ = some (.string k0.e) ∧ w'.cell? ⟨b, 5, none⟩ = some (.string k0.f)) (first | with_reducible assumption | exact keep13 (by with_reducible assumption) (by with_reducible assumption))
          (first | ((with_reducible refine Calls.mono (hcmp _) ?_); rintro _ w1 ⟨rfl, hb1⟩))
        have HLY := hid ((HL.out.below (g_drew g_refl)).below hb1)
        have HRY := hid ((HR.out.below (g_drew g_refl)).below hb1)
        have HSY := hid ((HSN.out.below (g_drew g_refl)).below hb1)
        have HWY := hid (g_trans (g_drew HW.out) hb1)
        obtain ⟨-, -, -, -, -, -, s6, s7, -⟩ := HSY.out.six
        clear hS hb1 HL HR HSN HW hcmp hcf
        have p5 : (0 : Int) ≤ (j : Int) + ((l.sz : Int) + 1) := by omega
        have p6 : (j : Int) + ((l.sz : Int) + 1) ≤ 1000001 := by omega
        go_wp2_with fail
        refine (count_any l _ HLY.out).mono ?_
        rintro _ _ ⟨rfl, rfl⟩
        go_wp2
        go_roundg r.sz
        case measure => rw [HN.out, Tr.sz_node]; omega
        case rel => exact ⟨r, j + (l.sz + 1), rfl, by simp, rfl, by have := HZ.out; omega, by rw [HK.out, Tr.look_gt (by rw [HC.out]; exact HLT.out), Nat.add_assoc, Nat.add_assoc, Nat.add_assoc], HRY.out, HWY.out, .inr trivial⟩
end Go.Proofs.YtgfgfggoofjeeaaGreat.DT
