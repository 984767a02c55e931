/-
  THE CONTRACTS of sets' span in one, Match, Goal and Subject.
-/
import Derived.Test.YtgfgfggoofjeeaaGreatDTSpan
import Derived.Test.YtgfgfggoofjeeaaGreatFClp
namespace Go.Proofs.YtgfgfggoofjeeaaGreat.DT
open Go.RowKit Go.Deep

/-- the same, and no older block is handed out -/
def Frs (w w' : World) (A : Option Addr) : Prop := ∀ a, A = some a → w.heap.size ≤ a.block ∧ ∀ j, w'.frozen? ⟨a.block, j, .none⟩ = false
def GivesN (w : World) (l : List Tup) (e : Ending) (w' : World) : Prop := ∃ A, e = .returned (.slice A l.length l.length) ∧ Row w' A l ∧ Below w.heap.size w w' ∧ Frs w w' A
theorem GivesN.r {w w' : World} {l : List Tup} {e : Ending} (h : GivesN w l e w') : GivesR w l e w' := by
  obtain ⟨A, h1, h2, h3, -⟩ := h; exact ⟨A, h1, h2, h3⟩
theorem Frs.none {w w' : World} : Frs w w' none := fun _ h => by cases h
theorem Frs.mk {w w' : World} {g : Nat} (h : w.heap.size ≤ g) (hf : ∀ j, w'.frozen? ⟨g, j, .none⟩ = false) : Frs w w' (some ⟨g, 0, .none⟩) := fun a e => by injection e with e; subst e; exact ⟨h, hf⟩
theorem list_n {w : World} {ov : Value} {T : Tr} {l : List Tup} (h : MapL w ov T l) (hn : l.length ≤ 900000) :
    Calls Tryz.prog 37 #[.agg #[ov, .pointer T.ad]] w (GivesN w l) :=
  (list_l h hn).mono fun _ _ ⟨_, he, hg, hc, hb⟩ => ⟨_, he, cel_row hc, hb, Frs.mk hg (fun j => by obtain ⟨-, -, cur, hh, -⟩ := hc; exact frozen_of_row _ _ j cur _ hh)⟩
theorem fpre_cases (f : Fil) : fpre f = 0 ∨ fpre f = 1 ∨ fpre f = 2 ∨ fpre f = 3 ∨ fpre f = 4 := by
  unfold fpre
  repeat' split
  all_goals simp
def SmF (f : Fil) : Prop := f.a.size ≤ 100 ∧ f.b.size ≤ 100 ∧ f.c.size ≤ 100 ∧ f.d.size ≤ 100 ∧ f.e.size ≤ 100 ∧ f.f.size ≤ 100
theorem span_l (f : Fil) {w : World} {ov : Value} {T : Tr} {l : List Tup} (h : MapL w ov T l) (hn : l.length ≤ 900000) (hz : SmF f) (n1 n2 : Nat) (h1 : spA f l = n1) (h2 : spB f l = n2) :
    Calls Tryz.prog 33 #[.agg #[ov, .pointer T.ad], .agg #[.string f.a, .string f.b, .string f.c, .string f.d, .string f.e, .string f.f, .bool f.x]] w fun r w' => r = .returned (.tuple #[.int .i64 (n1 : Nat), .int .i64 (n2 : Nat)]) ∧ Below w.heap.size w w' := by
  subst h1; subst h2
  unfold spA spB fstT behT
  rcases fpre_cases f with e | e | e | e | e
  · rw [if_pos e, if_pos e]; exact span_0 f.a f.b f.c f.d f.e f.f f.x h hn e
  · rw [if_neg (by rw [e]; decide), if_neg (by rw [e]; decide), if_pos e]; exact span_1 f.a f.b f.c f.d f.e f.f f.x h hn e hz.1
  · rw [if_neg (by rw [e]; decide), if_neg (by rw [e]; decide), if_neg (by rw [e]; decide), if_pos e]; exact span_2 f.a f.b f.c f.d f.e f.f f.x h hn e hz.2.1
  · rw [if_neg (by rw [e]; decide), if_neg (by rw [e]; decide), if_neg (by rw [e]; decide), if_neg (by rw [e]; decide), if_pos e]; exact span_3 f.a f.b f.c f.d f.e f.f f.x h hn e hz.2.2.1
  · rw [if_neg (by rw [e]; decide), if_neg (by rw [e]; decide), if_neg (by rw [e]; decide), if_neg (by rw [e]; decide), if_neg (by rw [e]; decide)]; exact span_4 f.a f.b f.c f.d f.e f.f f.x h hn e hz.2.2.2.2.2
theorem spA_le (f : Fil) (l : List Tup) : spA f l ≤ l.length := by
  unfold spA; split
  · exact Nat.zero_le _
  · exact Tr.rk_le _ _
theorem spB_le (f : Fil) (l : List Tup) : spB f l ≤ l.length := by
  unfold spB; split
  · exact Nat.le_refl _
  · exact Tr.rk_le _ _
/-- the tuples of the span -/
def spL (f : Fil) (l : List Tup) : List Tup := (l.drop (spA f l)).take (spB f l - spA f l)
theorem fcheck_e (a b c d e f : ByteArray) (x : Bool) (n : Int) (w : World) (h : FitF ⟨a, b, c, d, e, f, x⟩) (hn : fchk ⟨a, b, c, d, e, f, x⟩ = n) :
    Calls Tryz.prog 32 #[.agg #[.string a, .string b, .string c, .string d, .string e, .string f, .bool x]] w fun r w' => r = .returned (.int .i64 n) ∧ Below w.heap.size w w' := by
  subst hn; exact fcheck ⟨a, b, c, d, e, f, x⟩ w h
theorem ftakes_b (a b c d e f : ByteArray) (x : Bool) (t : Tup) (u : Bool) (w : World) (h : takes ⟨a, b, c, d, e, f, x⟩ t = u) :
    Calls Tryz.prog 35 #[.agg #[.string a, .string b, .string c, .string d, .string e, .string f, .bool x], .agg #[.string t.a, .string t.b, .string t.c, .string t.d, .string t.e, .string t.f]] w fun r w' => r = .returned (.bool u) ∧ Below w.heap.size w w' :=
  (ftakes_v a b c d e f x t u w h).mono fun _ _ h => ⟨h.1, h.2.toBelow⟩
theorem keep7 {a b : World} {p0 p1 p2 p3 p4 p5 p6 o0 o1 o2 o3 o4 o5 o6 : Nat} {x0 x1 x2 x3 x4 x5 x6 : Value} (h : Below a.heap.size a b)
    (s : a.cell? ⟨p0, o0, none⟩ = some x0 ∧ a.cell? ⟨p1, o1, none⟩ = some x1 ∧ a.cell? ⟨p2, o2, none⟩ = some x2 ∧ a.cell? ⟨p3, o3, none⟩ = some x3 ∧ a.cell? ⟨p4, o4, none⟩ = some x4 ∧ a.cell? ⟨p5, o5, none⟩ = some x5 ∧ a.cell? ⟨p6, o6, none⟩ = some x6) :
    b.cell? ⟨p0, o0, none⟩ = some x0 ∧ b.cell? ⟨p1, o1, none⟩ = some x1 ∧ b.cell? ⟨p2, o2, none⟩ = some x2 ∧ b.cell? ⟨p3, o3, none⟩ = some x3 ∧ b.cell? ⟨p4, o4, none⟩ = some x4 ∧ b.cell? ⟨p5, o5, none⟩ = some x5 ∧ b.cell? ⟨p6, o6, none⟩ = some x6 :=
  ⟨keep1 h s.1, keep1 h s.2.1, keep1 h s.2.2.1, keep1 h s.2.2.2.1, keep1 h s.2.2.2.2.1, keep1 h s.2.2.2.2.2.1, keep1 h s.2.2.2.2.2.2⟩

theorem match_world (w : World) (ov : Value) (p : Option Addr) (a b c d e f : ByteArray) (x : Bool) (W : World) (hW : W = (w.alloc (.cells #[ov, .pointer p] 38 (0, 0))).alloc (.cells #[.string a, .string b, .string c, .string d, .string e, .string f, .bool x] 51 (0, 0))) :
    Below w.heap.size w W ∧ (W.cell? ⟨w.heap.size, 0, none⟩ = some ov ∧ W.cell? ⟨w.heap.size, 1, none⟩ = some (.pointer p)) ∧ (W.cell? ⟨w.heap.size + 1, 0, none⟩ = some (.string a) ∧ W.cell? ⟨w.heap.size + 1, 1, none⟩ = some (.string b) ∧ W.cell? ⟨w.heap.size + 1, 2, none⟩ = some (.string c) ∧ W.cell? ⟨w.heap.size + 1, 3, none⟩ = some (.string d) ∧ W.cell? ⟨w.heap.size + 1, 4, none⟩ = some (.string e) ∧ W.cell? ⟨w.heap.size + 1, 5, none⟩ = some (.string f) ∧ W.cell? ⟨w.heap.size + 1, 6, none⟩ = some (.bool x)) := by
  obtain ⟨w1, h1⟩ : ∃ w1, w.alloc (.cells #[ov, .pointer p] 38 (0, 0)) = w1 := ⟨_, rfl⟩
  have s1 : w1.heap.size = w.heap.size + 1 := by rw [← h1]; simp
  have b1 : Below w.heap.size w w1 := by rw [← h1]; exact g_alloc g_refl _
  have m := box2p w ov (.pointer p) 38
  rw [h1] at m hW
  have b2 : Below w1.heap.size w1 W := by rw [hW]; exact g_alloc g_refl _
  have n := new_at w1 (.cells #[.string a, .string b, .string c, .string d, .string e, .string f, .bool x] 51 (0, 0))
  rw [← hW, s1] at n
  have cc := fun j => box_cell n j
  exact ⟨g_trans b1 b2, keep2 b2 m, ⟨(cc 0).trans rfl, (cc 1).trans rfl, (cc 2).trans rfl, (cc 3).trans rfl, (cc 4).trans rfl, (cc 5).trans rfl, (cc 6).trans rfl⟩⟩
set_option maxRecDepth 20000 in
set_option maxHeartbeats 2000000 in
theorem match_bad_n (a b c d e f : ByteArray) (x : Bool) {w : World} {ov : Value} {T : Tr} (n : Int) (hn : fchk ⟨a, b, c, d, e, f, x⟩ = n) (h0 : ¬ n = 0) (hF : FitF ⟨a, b, c, d, e, f, x⟩) :
    Calls Tryz.prog 11 #[.agg #[ov, .pointer T.ad], .agg #[.string a, .string b, .string c, .string d, .string e, .string f, .bool x]] w (GivesN w []) := by
  obtain ⟨hA, hM, hC⟩ := match_world w ov T.ad a b c d e f x _ rfl
  have HA := hid hA
  have HP := hid (fun W => fcheck_e a b c d e f x n W hF hn)
  clear hA hM hC hn hF
  go_enter Tryz.func11, Tryz.ntmps11
  go_wp2_with fail
  refine (HP.out _).mono ?_
  rintro _ w1 ⟨rfl, hb1⟩
  go_wp2
  go_ret
  exact ⟨none, rfl, Row.nil _ _, g_trans HA.out hb1, Frs.none⟩
set_option maxRecDepth 20000 in
set_option maxHeartbeats 4000000 in
theorem match_ok_n (a b c d e f : ByteArray) (x : Bool) {w : World} {ov : Value} {T : Tr} {l : List Tup} (h : MapL w ov T l) (hl : l.length ≤ 10000) (hn : fchk ⟨a, b, c, d, e, f, x⟩ = 0) (hF : FitF ⟨a, b, c, d, e, f, x⟩) (hz : SmF ⟨a, b, c, d, e, f, x⟩) :
    Calls Tryz.prog 11 #[.agg #[ov, .pointer T.ad], .agg #[.string a, .string b, .string c, .string d, .string e, .string f, .bool x]] w (GivesN w ((spL ⟨a, b, c, d, e, f, x⟩ l).filter (takes ⟨a, b, c, d, e, f, x⟩))) := by
  obtain ⟨hA, hM, hC⟩ := match_world w ov T.ad a b c d e f x _ rfl
  have HA := hid hA
  have HM := hid hM
  have HC := hid hC
  have HL := hid (h.below hA)
  have HN := hid hl
  have HP := hid (fun W => fcheck_e a b c d e f x 0 W hF hn)
  have l1 := spA_le ⟨a, b, c, d, e, f, x⟩ l
  have l2 := spB_le ⟨a, b, c, d, e, f, x⟩ l
  have hml : (spL ⟨a, b, c, d, e, f, x⟩ l).length = spB ⟨a, b, c, d, e, f, x⟩ l - spA ⟨a, b, c, d, e, f, x⟩ l := by unfold spL; rw [List.length_take, List.length_drop]; omega
  have hmg : ∀ j, (hj : j < (spL ⟨a, b, c, d, e, f, x⟩ l).length) → l[spA ⟨a, b, c, d, e, f, x⟩ l + j]? = some ((spL ⟨a, b, c, d, e, f, x⟩ l)[j]) := fun j hj => by
    unfold spL at hj ⊢
    rw [List.getElem_take, List.getElem_drop, List.getElem?_eq_getElem]
  have HSP := hid (fun W (h : MapL W ov T l) => span_l ⟨a, b, c, d, e, f, x⟩ h (Nat.le_trans hl (by decide)) hz _ _ rfl rfl)
  generalize spA ⟨a, b, c, d, e, f, x⟩ l = n1 at *
  generalize spB ⟨a, b, c, d, e, f, x⟩ l = n2 at *
  generalize hm : spL ⟨a, b, c, d, e, f, x⟩ l = m at *
  have HML := hid hml
  have HMG := hid hmg
  clear h hA hM hC hn hF hz hm hml hmg
  go_enter Tryz.func11, Tryz.ntmps11
  go_wp2_with fail
  refine (HP.out _).mono ?_
  rintro _ w1 ⟨rfl, hb1⟩
  generalize hA1 : (w.alloc (.cells #[ov, .pointer T.ad] 38 (0, 0))).alloc (.cells #[.string a, .string b, .string c, .string d, .string e, .string f, .bool x] 51 (0, 0)) = A1 at *
  generalize hq : w.heap.size = q at *
  have HQ := hid hq
  clear hA1 hq
  obtain ⟨k0, k1⟩ := keep2 hb1 HM.out
  obtain ⟨g0, g1, g2, g3, g4, g5, g6⟩ := keep7 hb1 HC.out
  have HB1 := hid hb1
  go_wp2_with fail
  refine (HSP.out _ (HL.out.below hb1)).mono ?_
  rintro _ w2 ⟨rfl, hb2⟩
  have hb12 := g_trans HB1.out hb2
  have HK := hid (keep2 hb12 HM.out)
  have HG := hid (keep7 hb12 HC.out)
  have HL2 := hid (HL.out.below hb12)
  have HB2 := hid hb12
  have i1 : (0 : Int) ≤ (n1 : Int) := by omega
  have i2 : (n1 : Int) ≤ 10000 := by omega
  have i3 : (0 : Int) ≤ (n2 : Int) := by omega
  have i4 : (n2 : Int) ≤ 10000 := by omega
  clear k0 k1 g0 g1 g2 g3 g4 g5 g6 hb1 hb2 hb12 HM HC HL HB1 HP HSP
  go_wp2
  go_loopw [5, 23] (fun v i wr => ∃ j : Nat, j ≤ m.length ∧ i = .int .i64 j ∧ Own wr w2.heap.size v (selK ⟨a, b, c, d, e, f, x⟩ m j) ∧ Below w2.heap.size w2 wr) (fun _ i _ => m.length - (intOf i).toNat)
  case atStart => exact ⟨0, Nat.zero_le _, rfl, Own.nil _ _, g_refl⟩
  case round =>
    obtain ⟨j, hj, rfl, hown, hw⟩ := hrel
    have HO := hid hown
    have HW := hid hw
    by_cases hlt : j < m.length
    · have hg := HMG.out j hlt
      have hAt := at_l hg (HL2.out.below hw) (by have := HN.out; omega)
      have HAT := hid hAt
      obtain ⟨k0, k1⟩ := keep2 hw HK.out
      generalize hx : m[j] = y at *
      have HX := hid hx
      have hjn : (j : Int) < (n2 : Int) - (n1 : Int) := by have := HML.out; omega
      have hadd : (n1 : Int) + (j : Int) = ((n1 + j : Nat) : Int) := by omega
      have HJ : Hid (((n1 + j : Nat) : Int) = (n1 : Int) + (j : Int)) := hid hadd.symm
      have i5 : (j : Int) ≤ 10000 := by omega
      have i6 : (0 : Int) ≤ (j : Int) := by omega
      rw [← hadd] at hAt
      replace HAT := hid hAt
      clear hown hw hg hAt hx hadd
      cases hu : takes ⟨a, b, c, d, e, f, x⟩ y
      · have HU := hid hu
        clear hu
        go_wp2_with fail
        refine HAT.out.mono ?_
        rintro _ w3 ⟨rfl, hb3⟩
        have HW3 := hid (g_alloc (g_trans HW.out hb3) (.cells #[.string y.a, .string y.b, .string y.c, .string y.d, .string y.e, .string y.f] 86 (0, 0)))
        obtain ⟨g0, g1, g2, g3, g4, g5, g6⟩ := keep7 HW3.out HG.out
        have HO3 := hid ((HO.out.below hb3).below (g_alloc g_refl (.cells #[.string y.a, .string y.b, .string y.c, .string y.d, .string y.e, .string y.f] 86 (0, 0))))
        have hpb := box6p w3 y 86
        have HPB := hid hpb
        clear k0 k1 hb3 hpb
        go_wp2_with fail
        refine (ftakes_b a b c d e f x y false _ HU.out).mono ?_
        rintro _ w4 ⟨rfl, hb4⟩
        have HW4 := hid (g_trans HW3.out hb4)
        have HO4 := hid (HO3.out.below hb4)
        clear hb4 g0 g1 g2 g3 g4 g5 g6
        go_wp2
        go_roundw
        case rel => exact ⟨j + 1, by omega, by go_num, by rw [selK_no hlt (by rw [HX.out]; exact HU.out)]; exact HO4.out, HW4.out⟩
        case measure => simp [intOf]; omega
      · have HU := hid hu
        clear hu
        go_wp2_with fail
        refine HAT.out.mono ?_
        rintro _ w3 ⟨rfl, hb3⟩
        have HW3 := hid (g_alloc (g_trans HW.out hb3) (.cells #[.string y.a, .string y.b, .string y.c, .string y.d, .string y.e, .string y.f] 86 (0, 0)))
        obtain ⟨g0, g1, g2, g3, g4, g5, g6⟩ := keep7 HW3.out HG.out
        have HO3 := hid ((HO.out.below hb3).below (g_alloc g_refl (.cells #[.string y.a, .string y.b, .string y.c, .string y.d, .string y.e, .string y.f] 86 (0, 0))))
        have hpb := box6p w3 y 86
        have HPB := hid hpb
        clear k0 k1 hb3 hpb
        go_wp2_with fail
        refine (ftakes_b a b c d e f x y true _ HU.out).mono ?_
        rintro _ w4 ⟨rfl, hb4⟩
        have HW4 := hid (g_trans HW3.out hb4)
        have HO4 := hid (HO3.out.below hb4)
        obtain ⟨t0, t1, t2, t3, t4, t5⟩ := keep6 hb4 HPB.out
        have hlen := selK_len ⟨a, b, c, d, e, f, x⟩ m j
        have hml := HML.out
        have hz := HW4.out.size
        clear hb4 g0 g1 g2 g3 g4 g5 g6
        go_wp2_with (at_builtin; refine wp_app _ _ rfl rfl w2.heap.size _ (selK ⟨a, b, c, d, e, f, x⟩ m j) w4.heap.size 1 y rfl rfl (HO4.out.below (g_alloc g_refl _)) (new_cells w4 y _) (by omega) (by simp; omega) ?_)
        intro v5 w5 hown5 hg5 hd5
        have hw5 : Below w2.heap.size w2 w5 := (g_alloc HW4.out _).grown hg5 (g_alloc HW4.out _).size fun g hg => (HO4.out.lt g hg).1
        clear hd5 hg5 t0 t1 t2 t3 t4 t5
        go_wp2
        go_roundw
        case rel => exact ⟨j + 1, by omega, by go_num, by rw [← selK_yes hlt (by rw [HX.out]; exact HU.out), HX.out]; exact hown5, hw5⟩
        case measure => simp [intOf]; omega
    · have hjn : ¬ (j : Int) < (n2 : Int) - (n1 : Int) := by have := HML.out; omega
      have HE := hid (selK_end (f := ⟨a, b, c, d, e, f, x⟩) hlt)
      have hO := HO.out
      rw [HE.out] at hO
      clear hown hw HO
      generalize m.filter (takes ⟨a, b, c, d, e, f, x⟩) = L at *
      have hlt := hO.lt
      rcases hO.form with ⟨rfl, hl⟩ | ⟨g, cap, rfl, hcap, hRL⟩
      · subst hl
        clear hO hlt
        go_wp2_with fail
        refine (clip_nil 0 _).mono ?_
        rintro r w' ⟨rfl, rfl⟩
        go_wp2
        go_ret
        have h := HQ.out
        subst h
        exact ⟨none, rfl, Row.nil _ _, g_trans (g_trans HA.out HB2.out) HW.out, Frs.none⟩
      · have HRL := hid hRL
        have HFR := hid (hlt g rfl).1
        have HFZ := hid (fun j => World.ownsRow.frozenAt hO j)
        clear hRL hO hlt
        go_wp2_with fail
        refine (clip_some g 0 L.length cap _ hcap).mono ?_
        rintro r w' ⟨rfl, rfl⟩
        go_wp2
        go_ret
        have h := HQ.out
        subst h
        exact ⟨_, rfl, HRL.out, g_trans (g_trans HA.out HB2.out) HW.out, Frs.mk (Nat.le_trans (g_trans HA.out HB2.out).size HFR.out) HFZ.out⟩
end Go.Proofs.YtgfgfggoofjeeaaGreat.DT
