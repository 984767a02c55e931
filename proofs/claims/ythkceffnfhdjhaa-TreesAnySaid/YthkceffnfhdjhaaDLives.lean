/-
  lives of layer 5's law: it returns true.
-/
import Derived.Test.YthkceffnfhdjhaaDOrd
import Derived.Deep.DeepCutAuto
namespace Go.Proofs.Ythkceffnfhdjhaa
open Go.RowKit Go.Deep
open DS (MapL GivesL keep1 keep2 box2p put_l drop_m get_hit get_miss rank_l at_l at_out range_l between_l len_l depth_l new_l RowP)

theorem sz_pow {α : Type} : ∀ T : Tr α, T.sz < 2 ^ T.dp
  | .nil => Nat.one_pos
  | .node b l k v r => by
    have h1 := sz_pow l
    have h2 := sz_pow r
    rw [Tr.sz_node, Tr.dp_node]
    have e1 : 2 ^ l.dp ≤ 2 ^ (max l.dp r.dp) := Nat.pow_le_pow_right (by decide) (Nat.le_max_left _ _)
    have e2 : 2 ^ r.dp ≤ 2 ^ (max l.dp r.dp) := Nat.pow_le_pow_right (by decide) (Nat.le_max_right _ _)
    rw [Nat.pow_succ]; omega
theorem dp_three {α : Type} {T : Tr α} (h : T.Bal) (hs : T.sz = 3) : T.dp = 2 := by
  have h1 := sz_pow T
  have h2 := Tr.bal_lst h
  rw [hs] at h1 h2
  rcases Nat.lt_or_ge T.dp 2 with h | h
  · have : T.dp = 0 ∨ T.dp = 1 := by omega
    rcases this with e | e <;> rw [e] at h1 <;> simp at h1
  · rcases Nat.lt_or_ge 2 T.dp with h3 | h3
    · have := Tr.lst_mono (show 3 ≤ T.dp by omega)
      have h4 : Tr.lst 3 = 4 := by decide
      omega
    · omega
theorem row_two {w : World} {A : Option Addr} {p q : Int × ByteArray} (h : RowP w A [p, q]) : ∃ g, A = some ⟨g, 0, none⟩ ∧ w.cell? ⟨g, 0, none⟩ = some (.int .i64 p.1) ∧ w.cell? ⟨g, 2, none⟩ = some (.int .i64 q.1) := by
  obtain ⟨g, arr, e, hg, hx⟩ := h (by simp)
  exact ⟨g, e, (DS.box_cell hg 0).trans (hx 0 p rfl).1, (DS.box_cell hg 2).trans (hx 1 q rfl).1⟩
theorem row_one {w : World} {A : Option Addr} {p : Int × ByteArray} (h : RowP w A [p]) : ∃ g, A = some ⟨g, 0, none⟩ ∧ w.cell? ⟨g, 0, none⟩ = some (.int .i64 p.1) := by
  obtain ⟨g, arr, e, hg, hx⟩ := h (by simp)
  exact ⟨g, e, (DS.box_cell hg 0).trans (hx 0 p rfl).1⟩

set_option maxRecDepth 20000 in
set_option maxHeartbeats 4000000 in
theorem lives_any (w : World) : Calls Try.prog 16 #[] w fun e w' => e = .returned (.bool true) ∧ Below w.heap.size w w' := by
  have HG3 := hid (fun (T : Tr ByteArray) (W : World) (h : MapL id W T ([(1, ⟨#[97]⟩), (3, ⟨#[98]⟩), (5, ⟨#[99]⟩)] : (List (Int × ByteArray)))) => show Calls Try.prog 38 #[.agg #[.func (.func 9) #[] #[], .pointer T.ad], .int .i64 3] W (fun e w' => e = .returned (.tuple #[.string ⟨#[98]⟩, .bool true]) ∧ Below W.heap.size W w') from get_hit sOrd Tr.ordI_f (p := (3, ⟨#[98]⟩)) (by simp) rfl h (by decide))
  have HG2 := hid (fun (T : Tr ByteArray) (W : World) (h : MapL id W T ([(1, ⟨#[97]⟩), (3, ⟨#[98]⟩), (5, ⟨#[99]⟩)] : (List (Int × ByteArray)))) => show Calls Try.prog 38 #[.agg #[.func (.func 9) #[] #[], .pointer T.ad], .int .i64 2] W (fun e w' => e = .returned (.tuple #[.string ⟨#[]⟩, .bool false]) ∧ Below W.heap.size W w') from get_miss sOrd Tr.ordI_f (by simp) h (by decide))
  have HA2 := hid (fun (T : Tr ByteArray) (W : World) (h : MapL id W T ([(1, ⟨#[97]⟩), (3, ⟨#[98]⟩), (5, ⟨#[99]⟩)] : (List (Int × ByteArray)))) => show Calls Try.prog 39 #[.agg #[.func (.func 9) #[] #[], .pointer T.ad], .int .i64 2] W (fun e w' => e = .returned (.tuple #[.agg #[.int .i64 5, .string ⟨#[99]⟩], .int .i64 0]) ∧ Below W.heap.size W w') from at_l _ (i := 2) (k := 5) (v := ⟨#[99]⟩) rfl h (by decide))
  have HA3 := hid (fun (T : Tr ByteArray) (W : World) (h : MapL id W T ([(1, ⟨#[97]⟩), (3, ⟨#[98]⟩), (5, ⟨#[99]⟩)] : (List (Int × ByteArray)))) => show Calls Try.prog 39 #[.agg #[.func (.func 9) #[] #[], .pointer T.ad], .int .i64 3] W (fun e w' => e = .returned (.tuple #[.agg #[.int .i64 0, .string ⟨#[]⟩], .int .i64 4]) ∧ Below W.heap.size W w') from at_out _ (.inr (by decide)) h)
  have HGX := hid (fun (T : Tr ByteArray) (W : World) (h : MapL id W T ([(1, ⟨#[97]⟩), (3, ⟨#[120]⟩), (5, ⟨#[99]⟩)] : (List (Int × ByteArray)))) => show Calls Try.prog 38 #[.agg #[.func (.func 9) #[] #[], .pointer T.ad], .int .i64 3] W (fun e w' => e = .returned (.tuple #[.string ⟨#[120]⟩, .bool true]) ∧ Below W.heap.size W w') from get_hit sOrd Tr.ordI_f (p := (3, ⟨#[120]⟩)) (by simp) rfl h (by decide))
  have HR2 := hid (fun (T : Tr ByteArray) (W : World) (h : MapL id W T ([(1, ⟨#[97]⟩), (3, ⟨#[98]⟩), (5, ⟨#[99]⟩)] : (List (Int × ByteArray)))) => show Calls Try.prog 42 #[.agg #[.func (.func 9) #[] #[], .pointer T.ad], .int .i64 2] W (fun e w' => e = .returned (.int .i64 1) ∧ Below W.heap.size W w') from rank_l sOrd Tr.ordI_f 2 h (by decide))
  have HR9 := hid (fun (T : Tr ByteArray) (W : World) (h : MapL id W T ([(1, ⟨#[97]⟩), (3, ⟨#[98]⟩), (5, ⟨#[99]⟩)] : (List (Int × ByteArray)))) => show Calls Try.prog 42 #[.agg #[.func (.func 9) #[] #[], .pointer T.ad], .int .i64 9] W (fun e w' => e = .returned (.int .i64 3) ∧ Below W.heap.size W w') from rank_l sOrd Tr.ordI_f 9 h (by decide))
  have HL2 := hid (fun (T : Tr ByteArray) (W : World) (h : MapL id W T ([(1, ⟨#[97]⟩), (5, ⟨#[99]⟩)] : (List (Int × ByteArray)))) => show Calls Try.prog 44 #[.agg #[.func (.func 9) #[] #[], .pointer T.ad]] W (fun e w' => e = .returned (.int .i64 2) ∧ Below W.heap.size W w') from len_l _ h)
  have HL3 := hid (fun (T : Tr ByteArray) (W : World) (h : MapL id W T ([(1, ⟨#[97]⟩), (3, ⟨#[98]⟩), (5, ⟨#[99]⟩)] : (List (Int × ByteArray)))) => show Calls Try.prog 44 #[.agg #[.func (.func 9) #[] #[], .pointer T.ad]] W (fun e w' => e = .returned (.int .i64 3) ∧ Below W.heap.size W w') from len_l _ h)
  have HDP := hid (fun (T : Tr ByteArray) (W : World) (h : MapL id W T ([(1, ⟨#[97]⟩), (3, ⟨#[98]⟩), (5, ⟨#[99]⟩)] : (List (Int × ByteArray)))) => show Calls Try.prog 45 #[.agg #[.func (.func 9) #[] #[], .pointer T.ad]] W (fun e w' => e = .returned (.int .i64 2) ∧ Below W.heap.size W w') from by have q := depth_l (fn := 9) h; rwa [dp_three h.bal h.sz] at q)
  have HP5 := hid (fun (T : Tr ByteArray) (W : World) (h : MapL id W T ([] : (List (Int × ByteArray)))) => show Calls Try.prog 37 #[.agg #[.func (.func 9) #[] #[], .pointer T.ad], .int .i64 5, .string ⟨#[99]⟩] W (GivesL 9 id W ([(5, ⟨#[99]⟩)] : (List (Int × ByteArray)))) from put_l sOrd Tr.ordI_f 5 _ h (by decide))
  have HP1 := hid (fun (T : Tr ByteArray) (W : World) (h : MapL id W T ([(5, ⟨#[99]⟩)] : (List (Int × ByteArray)))) => show Calls Try.prog 37 #[.agg #[.func (.func 9) #[] #[], .pointer T.ad], .int .i64 1, .string ⟨#[97]⟩] W (GivesL 9 id W ([(1, ⟨#[97]⟩), (5, ⟨#[99]⟩)] : (List (Int × ByteArray)))) from put_l sOrd Tr.ordI_f 1 _ h (by decide))
  have HP3 := hid (fun (T : Tr ByteArray) (W : World) (h : MapL id W T ([(1, ⟨#[97]⟩), (5, ⟨#[99]⟩)] : (List (Int × ByteArray)))) => show Calls Try.prog 37 #[.agg #[.func (.func 9) #[] #[], .pointer T.ad], .int .i64 3, .string ⟨#[98]⟩] W (GivesL 9 id W ([(1, ⟨#[97]⟩), (3, ⟨#[98]⟩), (5, ⟨#[99]⟩)] : (List (Int × ByteArray)))) from put_l sOrd Tr.ordI_f 3 _ h (by decide))
  have HPX := hid (fun (T : Tr ByteArray) (W : World) (h : MapL id W T ([(1, ⟨#[97]⟩), (3, ⟨#[98]⟩), (5, ⟨#[99]⟩)] : (List (Int × ByteArray)))) => show Calls Try.prog 37 #[.agg #[.func (.func 9) #[] #[], .pointer T.ad], .int .i64 3, .string ⟨#[120]⟩] W (GivesL 9 id W ([(1, ⟨#[97]⟩), (3, ⟨#[120]⟩), (5, ⟨#[99]⟩)] : (List (Int × ByteArray)))) from put_l sOrd Tr.ordI_f 3 _ h (by decide))
  have HD3 := hid (fun (T : Tr ByteArray) (W : World) (h : MapL id W T ([(1, ⟨#[97]⟩), (3, ⟨#[98]⟩), (5, ⟨#[99]⟩)] : (List (Int × ByteArray)))) => show Calls Try.prog 43 #[.agg #[.func (.func 9) #[] #[], .pointer T.ad], .int .i64 3] W (GivesL 9 id W ([(1, ⟨#[97]⟩), (5, ⟨#[99]⟩)] : (List (Int × ByteArray)))) from drop_m sOrd Tr.ordI_f 3 h (by decide))
  have HD2 := hid (fun (T : Tr ByteArray) (W : World) (h : MapL id W T ([(1, ⟨#[97]⟩), (3, ⟨#[98]⟩), (5, ⟨#[99]⟩)] : (List (Int × ByteArray)))) => show Calls Try.prog 43 #[.agg #[.func (.func 9) #[] #[], .pointer T.ad], .int .i64 2] W (GivesL 9 id W ([(1, ⟨#[97]⟩), (3, ⟨#[98]⟩), (5, ⟨#[99]⟩)] : (List (Int × ByteArray)))) from drop_m sOrd Tr.ordI_f 2 h (by decide))
  have HRG := hid (fun (T : Tr ByteArray) (W : World) (h : MapL id W T ([(1, ⟨#[97]⟩), (3, ⟨#[98]⟩), (5, ⟨#[99]⟩)] : (List (Int × ByteArray)))) => show Calls Try.prog 40 #[.agg #[.func (.func 9) #[] #[], .pointer T.ad], .int .i64 1, .int .i64 9] W (DS.Ranges W ([(3, ⟨#[98]⟩), (5, ⟨#[99]⟩)] : (List (Int × ByteArray)))) from range_l _ 1 9 h (by decide))
  have HBT := hid (fun (T : Tr ByteArray) (W : World) (h : MapL id W T ([(1, ⟨#[97]⟩), (3, ⟨#[98]⟩), (5, ⟨#[99]⟩)] : (List (Int × ByteArray)))) => show Calls Try.prog 41 #[.agg #[.func (.func 9) #[] #[], .pointer T.ad], .int .i64 2, .int .i64 5] W (DS.Ranges W ([(3, ⟨#[98]⟩)] : (List (Int × ByteArray)))) from between_l sOrd Tr.ordI_f 2 5 h (by decide))
  go_enter Try.func16, Try.ntmps16
  go_wp2_with fail
  refine (new_l 9 id w).mono ?_
  rintro _ w1 ⟨T1, rfl, hm, hb⟩
  have HB := hid hb
  have HM := hid hm
  clear hb hm
  go_wp2_with fail
  refine (HP5.out _ _ HM.out).mono ?_
  rintro _ w2 ⟨T2, rfl, hm, hb⟩
  replace HB := hid (g_trans HB.out hb)
  replace HM := hid hm
  clear hb hm
  go_wp2_with fail
  refine (HP1.out _ _ HM.out).mono ?_
  rintro _ w3 ⟨T3, rfl, hm, hb⟩
  replace HB := hid (g_trans HB.out hb)
  replace HM := hid hm
  clear hb hm
  go_wp2_with fail
  refine (HP3.out _ _ HM.out).mono ?_
  rintro _ w4 ⟨T4, rfl, hm, hb⟩
  replace HB := hid (g_trans HB.out hb)
  replace HM := hid hm
  clear hb hm
  obtain ⟨c0, c1⟩ := box2p w4 (.func (.func 9) #[] #[]) (.pointer T4.ad) 71
  have hx := g_alloc (g_refl (a := w4)) (.cells #[.func (.func 9) #[] #[], .pointer T4.ad] 71 (0, 0))
  replace HB := hid (g_trans HB.out hx)
  replace HM := hid (HM.out.below hx)
  clear hx
  go_wp2_with fail
  refine (HG3.out _ _ HM.out).mono ?_
  rintro _ w5 ⟨rfl, hb⟩
  replace c0 := keep1 hb c0
  replace c1 := keep1 hb c1
  replace HB := hid (g_trans HB.out hb)
  replace HM := hid (HM.out.below hb)
  clear hb
  go_wp2_with fail
  refine (HG2.out _ _ HM.out).mono ?_
  rintro _ w6 ⟨rfl, hb⟩
  replace c0 := keep1 hb c0
  replace c1 := keep1 hb c1
  replace HB := hid (g_trans HB.out hb)
  replace HM := hid (HM.out.below hb)
  clear hb
  go_wp2_with fail
  refine (HA2.out _ _ HM.out).mono ?_
  rintro _ w7 ⟨rfl, hb⟩
  replace c0 := keep1 hb c0
  replace c1 := keep1 hb c1
  replace HB := hid (g_trans HB.out hb)
  replace HM := hid (HM.out.below hb)
  clear hb
  obtain ⟨p0, p1⟩ := box2p w7 (.int .i64 5) (.string ⟨#[99]⟩) 77
  have hx := g_alloc (g_refl (a := w7)) (.cells #[.int .i64 5, .string ⟨#[99]⟩] 77 (0, 0))
  replace c0 := keep1 hx c0
  replace c1 := keep1 hx c1
  replace HB := hid (g_trans HB.out hx)
  replace HM := hid (HM.out.below hx)
  clear hx
  go_wp2_with fail
  refine (HA3.out _ _ HM.out).mono ?_
  rintro _ w8 ⟨rfl, hb⟩
  replace c0 := keep1 hb c0
  replace c1 := keep1 hb c1
  replace p0 := keep1 hb p0
  replace p1 := keep1 hb p1
  replace HB := hid (g_trans HB.out hb)
  replace HM := hid (HM.out.below hb)
  clear hb
  obtain ⟨z0, z1⟩ := box2p w8 (.int .i64 0) (.string ⟨#[]⟩) 77
  have hx := g_alloc (g_refl (a := w8)) (.cells #[.int .i64 0, .string ⟨#[]⟩] 77 (0, 0))
  replace c0 := keep1 hx c0
  replace c1 := keep1 hx c1
  replace p0 := keep1 hx p0
  replace p1 := keep1 hx p1
  replace HB := hid (g_trans HB.out hx)
  replace HM := hid (HM.out.below hx)
  clear hx
  clear z0 z1
  go_wp2_with fail
  refine (HPX.out _ _ HM.out).mono ?_
  rintro _ w9 ⟨TX, rfl, hm, hb⟩
  replace c0 := keep1 hb c0
  replace c1 := keep1 hb c1
  replace p0 := keep1 hb p0
  replace p1 := keep1 hb p1
  replace HB := hid (g_trans HB.out hb)
  replace HM := hid (HM.out.below hb)
  have HX := hid hm
  clear hb hm
  go_wp2_with fail
  refine (HGX.out _ _ HX.out).mono ?_
  rintro _ w10 ⟨rfl, hb⟩
  replace c0 := keep1 hb c0
  replace c1 := keep1 hb c1
  replace p0 := keep1 hb p0
  replace p1 := keep1 hb p1
  replace HB := hid (g_trans HB.out hb)
  replace HM := hid (HM.out.below hb)
  clear hb HX
  go_wp2_with fail
  refine (HG3.out _ _ HM.out).mono ?_
  rintro _ w11 ⟨rfl, hb⟩
  replace c0 := keep1 hb c0
  replace c1 := keep1 hb c1
  replace p0 := keep1 hb p0
  replace p1 := keep1 hb p1
  replace HB := hid (g_trans HB.out hb)
  replace HM := hid (HM.out.below hb)
  clear hb
  go_upto_region 8 with fail
  have HM8 := hid (HM.out.below (g_drew (g_refl (a := w11))))
  have HC8 := hid (And.intro c0 c1)
  have hS : w11.drew.cell? ⟨w4.heap.size, 0, none⟩ = some (.func (.func 9) #[] #[]) ∧ w11.drew.cell? ⟨w4.heap.size, 1, none⟩ = some (.pointer T4.ad) := ⟨c0, c1⟩
  go_cut [14, 15] (fun s14 s15 wx => ∃ A1 A2, s14 = .slice A1 2 2 ∧ s15 = .slice A2 1 1 ∧ RowP wx A1 ([(3, ⟨#[98]⟩), (5, ⟨#[99]⟩)] : (List (Int × ByteArray))) ∧ RowP wx A2 ([(3, ⟨#[98]⟩)] : (List (Int × ByteArray))) ∧ Below w11.heap.size w11 wx)
  case first =>
    have hHB := (g_drew (g_refl (a := w11)))
    go_region_held3 (fun w' => w'.cell? ⟨w4.heap.size, 0, none⟩ = some (.func (.func 9) #[] #[]) ∧ w'.cell? ⟨w4.heap.size, 1, none⟩ = some (.pointer T4.ad)) (first | with_reducible assumption | exact keep2 (by with_reducible assumption) (by with_reducible assumption))
      (first | (go_at_call 40; (with_reducible refine Calls.mono (HRG.out _ _ (by first | with_reducible exact HM8.out | with_reducible exact HM8.out.below hb2)) ?_); rintro _ x1 ⟨A1, rfl, hr1, hb1⟩) | (go_at_call 41; (with_reducible refine Calls.mono (HBT.out _ _ (by first | with_reducible exact HM8.out | with_reducible exact HM8.out.below hb1)) ?_); rintro _ x2 ⟨A2, rfl, hr2, hb2⟩))
    all_goals
      go_wp2_with fail
      go_meet
      first
      | exact ⟨A1, A2, rfl, rfl, hr1.below hb2, hr2, g_trans (g_trans hHB hb1) hb2⟩
      | exact ⟨A1, A2, rfl, rfl, hr1, hr2.below hb1, g_trans (g_trans hHB hb2) hb1⟩
  case rest =>
    obtain ⟨A1, A2, rfl, rfl, hr1, hr2, hb⟩ := hcut
    obtain ⟨g1, rfl, e0, e1⟩ := row_two hr1
    obtain ⟨g2, rfl, e2⟩ := row_one hr2
    clear hr1 hr2 hS
    replace c0 := keep1 hb c0
    replace c1 := keep1 hb c1
    replace p0 := keep1 hb p0
    replace p1 := keep1 hb p1
    replace HB := hid (g_trans HB.out hb)
    replace HM := hid (HM.out.below hb)
    clear hb HM8 HC8
    go_wp2_with fail
    refine (HR2.out _ _ HM.out).mono ?_
    rintro _ w12 ⟨rfl, hb⟩
    replace c0 := keep1 hb c0
    replace c1 := keep1 hb c1
    replace p0 := keep1 hb p0
    replace p1 := keep1 hb p1
    replace e0 := keep1 hb e0
    replace e1 := keep1 hb e1
    replace e2 := keep1 hb e2
    replace HB := hid (g_trans HB.out hb)
    replace HM := hid (HM.out.below hb)
    clear hb
    go_wp2_with fail
    refine (HR9.out _ _ HM.out).mono ?_
    rintro _ w13 ⟨rfl, hb⟩
    replace c0 := keep1 hb c0
    replace c1 := keep1 hb c1
    replace p0 := keep1 hb p0
    replace p1 := keep1 hb p1
    replace e0 := keep1 hb e0
    replace e1 := keep1 hb e1
    replace e2 := keep1 hb e2
    replace HB := hid (g_trans HB.out hb)
    replace HM := hid (HM.out.below hb)
    clear hb
    obtain ⟨y0, y1⟩ := box2p w13 (.nilFunc) (.pointer none) 71
    have hx := g_alloc (g_refl (a := w13)) (.cells #[.nilFunc, .pointer none] 71 (0, 0))
    have c0n := keep1 hx c0
    have c1n := keep1 hx c1
    have p0n := keep1 hx p0
    have p1n := keep1 hx p1
    have e0n := keep1 hx e0
    have e1n := keep1 hx e1
    have e2n := keep1 hx e2
    replace HB := hid (g_trans HB.out hx)
    replace HM := hid (HM.out.below hx)
    clear hx
    go_wp2_with fail
    clear c0 c1 p0 p1 e0 e1 e2
    have c0 := c0n
    clear c0n
    have c1 := c1n
    clear c1n
    have p0 := p0n
    clear p0n
    have p1 := p1n
    clear p1n
    have e0 := e0n
    clear e0n
    have e1 := e1n
    clear e1n
    have e2 := e2n
    clear e2n
    refine (HD3.out _ _ HM.out).mono ?_
    rintro _ w14 ⟨TX, rfl, hm, hb⟩
    replace c0 := keep1 hb c0
    replace c1 := keep1 hb c1
    replace p0 := keep1 hb p0
    replace p1 := keep1 hb p1
    replace e0 := keep1 hb e0
    replace e1 := keep1 hb e1
    replace e2 := keep1 hb e2
    replace y0 := keep1 hb y0
    replace y1 := keep1 hb y1
    replace HB := hid (g_trans HB.out hb)
    replace HM := hid (HM.out.below hb)
    have HX := hid hm
    clear hb hm
    go_wp2_with fail
    refine (HL2.out _ _ HX.out).mono ?_
    rintro _ w15 ⟨rfl, hb⟩
    replace c0 := keep1 hb c0
    replace c1 := keep1 hb c1
    replace p0 := keep1 hb p0
    replace p1 := keep1 hb p1
    replace e0 := keep1 hb e0
    replace e1 := keep1 hb e1
    replace e2 := keep1 hb e2
    replace y0 := keep1 hb y0
    replace y1 := keep1 hb y1
    replace HB := hid (g_trans HB.out hb)
    replace HM := hid (HM.out.below hb)
    clear hb HX
    go_wp2_with fail
    refine (HD2.out _ _ HM.out).mono ?_
    rintro _ w16 ⟨TX, rfl, hm, hb⟩
    replace c0 := keep1 hb c0
    replace c1 := keep1 hb c1
    replace p0 := keep1 hb p0
    replace p1 := keep1 hb p1
    replace e0 := keep1 hb e0
    replace e1 := keep1 hb e1
    replace e2 := keep1 hb e2
    replace y0 := keep1 hb y0
    replace y1 := keep1 hb y1
    replace HB := hid (g_trans HB.out hb)
    replace HM := hid (HM.out.below hb)
    have HX := hid hm
    clear hb hm
    go_wp2_with fail
    refine (HL3.out _ _ HX.out).mono ?_
    rintro _ w17 ⟨rfl, hb⟩
    replace c0 := keep1 hb c0
    replace c1 := keep1 hb c1
    replace p0 := keep1 hb p0
    replace p1 := keep1 hb p1
    replace e0 := keep1 hb e0
    replace e1 := keep1 hb e1
    replace e2 := keep1 hb e2
    replace y0 := keep1 hb y0
    replace y1 := keep1 hb y1
    replace HB := hid (g_trans HB.out hb)
    replace HM := hid (HM.out.below hb)
    clear hb HX
    go_wp2_with fail
    refine (HDP.out _ _ HM.out).mono ?_
    rintro _ w18 ⟨rfl, hb⟩
    replace c0 := keep1 hb c0
    replace c1 := keep1 hb c1
    replace p0 := keep1 hb p0
    replace p1 := keep1 hb p1
    replace e0 := keep1 hb e0
    replace e1 := keep1 hb e1
    replace e2 := keep1 hb e2
    replace y0 := keep1 hb y0
    replace y1 := keep1 hb y1
    replace HB := hid (g_trans HB.out hb)
    replace HM := hid (HM.out.below hb)
    clear hb
    go_wp2_with fail
    refine (DS.put_nul 1 ⟨#[97]⟩ _).mono ?_
    rintro _ w19 ⟨rfl, hb⟩
    replace HB := hid (g_trans HB.out hb)
    clear hb
    go_wp2_with fail
    refine (DS.len_nul _).mono ?_
    rintro _ w20 ⟨rfl, hb⟩
    replace HB := hid (g_trans HB.out hb)
    clear hb
    go_wp2
    go_ret
    exact ⟨rfl, HB.out⟩
end Go.Proofs.Ythkceffnfhdjhaa
