/-
  FiltersSelect returns true: the walk.
-/
import Derived.Test.YteogmfgabnpleaaFFac
namespace Go.Proofs.Yteogmfgabnpleaa
open Go.RowKit Go.Sort

/-- three bytes lie in a block -/
def N3 (w : World) (b p q n : Nat) : Prop := w.cell? ⟨b, 0, none⟩ = some (.int .u8 p) ∧ w.cell? ⟨b, 1, none⟩ = some (.int .u8 q) ∧ w.cell? ⟨b, 2, none⟩ = some (.int .u8 n) ∧ b < w.heap.size
theorem N3.keep {w w' : World} {b p q n : Nat} (h : N3 w b p q n) (hb : Below w.heap.size w w') : N3 w' b p q n := by
  obtain ⟨h0, h1, h2, h3⟩ := h
  exact ⟨(own_cells hb _ h3 _).1.trans h0, (own_cells hb _ h3 _).1.trans h1, (own_cells hb _ h3 _).1.trans h2, Nat.lt_of_lt_of_le h3 hb.size⟩

set_option maxRecDepth 100000 in
set_option maxHeartbeats 1500000 in
theorem sel_walk (A : Option Addr) (x : List (Nat × Nat)) (c p q n : Nat) (w : World) (hR : RowN w A x) (hx : x.length ≤ maxLen) (hp : p < 256) (hq : q < 256) :
    Calls Try.prog 4 #[.agg #[.slice A x.length c], .agg #[.int .u8 p, .int .u8 q, .int .u8 n]] w fun e w' => e = .returned (.bool true) ∧ Below w.heap.size w w' := by
  have hmx := mixed
  go_enter Try.func4, Try.ntmps4
  go_wp2_with fail
  refine (of_any A x c _ (hR.gw (gw_alloc (gw_alloc gw_refl _) _)) hx).mono ?_
  rintro e w1 ⟨v1, rfl, hown1, hg1⟩
  obtain ⟨A1, c1, rfl, hR1, -, -⟩ := hown1.row
  go_wp2_with fail
  refine (rsorted A1 (ofT x) c1 _ hR1 (ofT_fits x) (by have := ofT_len x; omega)).mono ?_
  rintro e w2 ⟨v2, rfl, hown2, hg2⟩
  obtain ⟨A2, c2, rfl, hR2, hc2, hA2⟩ := hown2.form2
  have hN2 : Hid (N3 w2 (w.heap.size + 1) p q n) := hid ((N3.keep (by simp only [N3]; exact ⟨by go_simp, by go_simp, by go_simp, by simp⟩) hg1.toBelow).keep hg2.toBelow)
  have hB2 : Hid (Below w.heap.size w w2) := hid (g_trans (g_trans (g_alloc (g_alloc g_refl _) _) hg1.toBelow) hg2.toBelow)
  have hlen := srt_len20 x
  have hisB := srt_isB (ofT x)
  have hasc := asc_srt tot (ofT x)
  have hfit := srt_fits (ofT_fits x)
  generalize srt cmpT (ofT x) = l at *
  clear hown1 hown2 hg1 hg2 hR1 hR
  have nn := hN2.out
  simp only [N3] at nn
  obtain ⟨n0, n1, n2, n3⟩ := nn
  have HR2 := hid hR2
  clear hR2
  go_wp2_with fail
  refine (ofF_any p q n _ hp hq).mono ?_
  rintro e w3 ⟨rfl, hw3⟩
  have hfs := ofF_small p q n
  have hfc := ofF_chk p q n
  generalize ofF p q n = f at *
  have hff := hfs.fit
  have hft := first_fits hff
  have HR3 := hid (HR2.out.gw hw3)
  have hB3 := hid (g_trans hB2.out hw3.toBelow)
  clear n0 n1 n2 n3 hN2 HR2 hB2 hw3 hfs
  have HFB3 : Hid (FB (w3.alloc (.cells #[.string f.a, .string f.b, .string f.c, .string f.d, .string f.e, .string f.f, .bool f.x] 48)) w3.heap.size f) := hid (by simp only [FB]; exact ⟨by go_simp, by go_simp, by go_simp, by go_simp, by go_simp, by go_simp, by go_simp, by simp⟩)
  simp only [valF]
  go_wp2_with fail
  refine (select_any f A2 l c2 _ (by rcases hA2 with h | ⟨g, h⟩; exact .inl h; exact .inr ⟨g, 0, h⟩) hff (HR3.out.gw (gw_alloc gw_refl _)) hc2 (by omega) hfc hisB).mono ?_
  rintro e w4 ⟨A4, rfl, hR4, hA4, hw4⟩
  have HL := hid (show l.filter (takes f) = l.filter (takes f) from rfl)
  generalize hLe : l.filter (takes f) = L at *
  have HLE := hid hLe
  clear hLe HL
  have HR4 := hid ((HR3.out.gw (gw_alloc gw_refl _)).below hw4)
  have HS4 := hid hR4
  have HF4 := hid (HFB3.out.keep hw4)
  have hB4 := hid (g_trans (g_alloc hB3.out _) hw4)
  clear HR3 hR4 HFB3 hB3 hw4
  generalize w3.heap.size = o at *
  have hL20 : L.length ≤ l.length := by rw [← HLE.out]; exact List.length_filter_le _ _
  obtain ⟨t0, t1, t2, t3, t4, t5, t6, t7⟩ := HF4.out
  go_wp2_with fail
  refine (span_ok f A2 l c2 _ hff HR4.out (by omega) hfc hisB).mono ?_
  rintro e w5 ⟨rfl, hw5⟩
  have HR5 := hid (HR4.out.below hw5)
  have HS5 := hid (HS4.out.below hw5)
  have HF5 := hid (HF4.out.keep hw5)
  have hB5 := hid (g_trans hB4.out hw5)
  clear HR4 HS4 HF4 hB4 hw5 t0 t1 t2 t3 t4 t5 t6 t7
  obtain ⟨t0, t1, t2, t3, t4, t5, t6, t7⟩ := HF5.out
  go_wp2_with fail
  refine (rspan f A2 l c2 _ HR5.out (by omega) hfit hft hasc).mono ?_
  rintro e w6 ⟨rfl, hw6⟩
  have HR6 := hid (HR5.out.gw hw6)
  have HS6 := hid (HS5.out.gw hw6)
  have HF6 := hid (HF5.out.keep hw6.toBelow)
  have hB6 := hid (g_trans hB5.out hw6.toBelow)
  clear HR5 HS5 HF5 hB5 hw6 t0 t1 t2 t3 t4 t5 t6 t7
  obtain ⟨t0, t1, t2, t3, t4, t5, t6, t7⟩ := HF6.out
  obtain ⟨pf, hpf⟩ : ∃ n, fpre f = n := ⟨_, rfl⟩
  have HPF := hid hpf
  go_wp2_with fail
  refine (fprefix_i f pf _ HPF.out).mono ?_
  rintro e w7 ⟨rfl, hw7⟩
  have HR7 := hid (HR6.out.below hw7)
  have HS7 := hid (HS6.out.below hw7)
  have HF7 := hid (HF6.out.keep hw7)
  have hB7 := hid (g_trans hB6.out hw7)
  clear HR6 HS6 HF6 hB6 hw7 t0 t1 t2 t3 t4 t5 t6 t7
  obtain ⟨t0, t1, t2, t3, t4, t5, t6, t7⟩ := HF7.out
  have hlo := lo_le f l
  have hhi := hi_le f l
  have hom : pf = 4 → hi f l ≤ lo f l + 1 := fun h => one_most hasc (hpf.trans h)
  clear hpf
  have hcut := cut_len f l
  have HCA := hid (cut_asc hasc f)
  have HSC := hid (sel_cut hasc f)
  rw [HLE.out] at HSC
  have HRC := hid (show ∀ b o', A2 = some ⟨b, o', none⟩ → ∀ w, Row w A2 l → Row w (some ⟨b, o' + lo f l * 6, none⟩) (cutL f l) from fun b o' e w h => by subst e; exact cut_row h)
  generalize cutL f l = m at *
  generalize lo f l = n0 at *
  generalize hi f l = n1 at *
  go_wp2_with fail
  refine (rselect f A2 l c2 _ HR7.out (by omega)).mono ?_
  rintro e w8 ⟨v8, rfl, hown8, hw8⟩
  rw [HLE.out] at hown8
  obtain ⟨A8, c8, rfl, hR8, -, -⟩ := hown8.form2
  have HR8 := hid (HR7.out.gw hw8)
  have HS8 := hid (HS7.out.gw hw8)
  have HF8 := hid (HF7.out.keep hw8.toBelow)
  have hB8 := hid (g_trans hB7.out hw8.toBelow)
  clear HR7 HS7 HF7 hB7 hw8 t0 t1 t2 t3 t4 t5 t6 t7 hown8
  have HT8 := hid hR8
  clear hR8
  go_wp2_with fail
  refine (rsame_v A4 A8 L L L.length c8 1 _ HS8.out HT8.out (by omega) (same_self L)).mono ?_
  rintro e w9 ⟨rfl, hw9⟩
  have HR9 := hid (HR8.out.gw hw9)
  have HS9 := hid (HS8.out.gw hw9)
  have HF9 := hid (HF8.out.keep hw9.toBelow)
  have hB9 := hid (g_trans hB8.out hw9.toBelow)
  clear HR8 HS8 HF8 hB8 hw9 HT8
  obtain ⟨t0, t1, t2, t3, t4, t5, t6, t7⟩ := HF9.out
  go_wp2_with fail
  refine (rprefix_i f pf _ HPF.out).mono ?_
  rintro e w10 ⟨rfl, hw10⟩
  have HR10 := hid (HR9.out.gw hw10)
  have HS10 := hid (HS9.out.gw hw10)
  have HF10 := hid (HF9.out.keep hw10.toBelow)
  have hB10 := hid (g_trans hB9.out hw10.toBelow)
  clear HR9 HS9 HF9 hB9 hw10 t0 t1 t2 t3 t4 t5 t6 t7
  have z1 : (0 : Int) ≤ (n0 : Int) := by omega
  have z2 : (n0 : Int) ≤ (n1 : Int) := by omega
  have z3 : (n1 : Int) ≤ (l.length : Int) := by omega
  have z4 : (n1 : Int) ≤ (c2 : Int) := by omega
  have z5 : IntKind.i64.wrap ((n1 : Int) - (n0 : Int)) = (n1 : Int) - (n0 : Int) := IntWalk.i64_in _ (by omega)
  have z6 : pf = 4 → ¬ 1 < (n1 : Int) - (n0 : Int) := fun h => by have := hom h; omega
  have HOM := hid z6
  clear hom z6
  by_cases h4 : pf = 4
  all_goals
    first | have z6 := HOM.out h4 | skip
    go_wp2_with fail
    go_cut [15, 16] (fun s15 s16 wx => ∃ A', s15 = .slice A' L.length L.length ∧ s16 = .int .i64 0 ∧ Row wx A' L ∧ Row wx A2 l ∧ Row wx A4 L ∧ FB wx o f ∧ Below w.heap.size w wx)
    case first =>
      obtain ⟨t0, t1, t2, t3, t4, t5, t6, t7⟩ := HF10.out
      have hS : w10.cell? ⟨o, 0, none⟩ = some (.string f.a) ∧ w10.cell? ⟨o, 1, none⟩ = some (.string f.b) ∧ w10.cell? ⟨o, 2, none⟩ = some (.string f.c) ∧ w10.cell? ⟨o, 3, none⟩ = some (.string f.d) ∧ w10.cell? ⟨o, 4, none⟩ = some (.string f.e) ∧ w10.cell? ⟨o, 5, none⟩ = some (.string f.f) ∧ w10.cell? ⟨o, 6, none⟩ = some (.bool f.x) ∧ o < w10.heap.size := ⟨t0, t1, t2, t3, t4, t5, t6, t7⟩
      clear t0 t1 t2 t3 t4 t5 t6 t7
      rcases hA2 with ⟨rfl, rfl⟩ | ⟨g, rfl⟩
      · have hl : l = [] := List.eq_nil_of_length_eq_zero (by omega)
        have hLn : L = [] := by rw [← HLE.out, hl]; rfl
        have e0 : n0 = 0 := by rw [hl] at hhi; simp at hhi; omega
        have e1 : n1 = 0 := by rw [hl] at hhi; simp at hhi; omega
        have HRW : Hid (Row w10 none []) := hid (Row.nil _ _)
        have HSel : Hid (∀ W, Row W none [] → Calls Try.prog 19 #[.slice none 0 0, .agg #[.string f.a, .string f.b, .string f.c, .string f.d, .string f.e, .string f.f, .bool f.x]] W (SelRet W L)) := hid (fun W _ => by rw [hLn]; exact sel_none f W hff hfc)
        clear hLn hl
        subst e0; subst e1
        go_region_held3 (fun w' => w'.cell? ⟨o, 0, none⟩ = some (.string f.a) ∧ w'.cell? ⟨o, 1, none⟩ = some (.string f.b) ∧ w'.cell? ⟨o, 2, none⟩ = some (.string f.c) ∧ w'.cell? ⟨o, 3, none⟩ = some (.string f.d) ∧ w'.cell? ⟨o, 4, none⟩ = some (.string f.e) ∧ w'.cell? ⟨o, 5, none⟩ = some (.string f.f) ∧ w'.cell? ⟨o, 6, none⟩ = some (.bool f.x) ∧ o < w'.heap.size) (first | assumption | exact fb_keep (by assumption) (by assumption) | exact fb_keep (g_drew g_refl) (by assumption))
          (first | (go_at_call 19; (with_reducible refine (HSel.out _ (by first | exact HRW.out | exact HRW.out.below (g_drew g_refl))).mono ?_); rintro r w' ⟨A', rfl, hR', -, hw'⟩))
        all_goals
          have hA' := g_trans (g_drew (g_refl (a := w10))) hw'
          go_wp2_with fail
          go_meet
          exact ⟨A', rfl, rfl, hR', HR10.out.below hA', HS10.out.below hA', HF10.out.keep hA', g_trans hB10.out hA'⟩
      · by_cases hz : c2 - n0 = 0
        · have e0 : n0 = c2 := by omega
          have e1 : n1 = c2 := by omega
          have hm : m = [] := List.eq_nil_of_length_eq_zero (by omega)
          have hLn : L = [] := by rw [← HSC.out, hm]; rfl
          have HRW : Hid (Row w10 (some ⟨g, 0, none⟩) []) := hid (Row.nil _ _)
          have HSel : Hid (∀ W, Row W (some ⟨g, 0, none⟩) [] → Calls Try.prog 19 #[.slice (some ⟨g, 0, none⟩) 0 0, .agg #[.string f.a, .string f.b, .string f.c, .string f.d, .string f.e, .string f.f, .bool f.x]] W (SelRet W L)) := hid (fun W h => by rw [hLn]; exact select_any f (some ⟨g, 0, none⟩) [] 0 W (.inr ⟨g, 0, rfl⟩) hff h (Nat.le_refl _) (by decide) hfc rfl)
          clear hLn
          subst e0
          subst e1
          go_region_held3 (fun w' => w'.cell? ⟨o, 0, none⟩ = some (.string f.a) ∧ w'.cell? ⟨o, 1, none⟩ = some (.string f.b) ∧ w'.cell? ⟨o, 2, none⟩ = some (.string f.c) ∧ w'.cell? ⟨o, 3, none⟩ = some (.string f.d) ∧ w'.cell? ⟨o, 4, none⟩ = some (.string f.e) ∧ w'.cell? ⟨o, 5, none⟩ = some (.string f.f) ∧ w'.cell? ⟨o, 6, none⟩ = some (.bool f.x) ∧ o < w'.heap.size) (first | assumption | exact fb_keep (by assumption) (by assumption) | exact fb_keep (g_drew g_refl) (by assumption))
            (first | (go_at_call 19; (with_reducible refine (HSel.out _ (by first | exact HRW.out | exact HRW.out.below (g_drew g_refl))).mono ?_); rintro r w' ⟨A', rfl, hR', -, hw'⟩))
          all_goals
            have hA' := g_trans (g_drew (g_refl (a := w10))) hw'
            go_wp2_with fail
            go_meet
            exact ⟨A', rfl, rfl, hR', HR10.out.below hA', HS10.out.below hA', HF10.out.keep hA', g_trans hB10.out hA'⟩
        · have hz2 : ¬ c2 = n0 := by omega
          have HRW : Hid (Row w10 (some ⟨g, n0 * 6, none⟩) m) := hid (by have := HRC.out g 0 rfl w10 HR10.out; rwa [Nat.zero_add] at this)
          have HSel : Hid (∀ W, Row W (some ⟨g, n0 * 6, none⟩) m → Calls Try.prog 19 #[.slice (some ⟨g, n0 * 6, none⟩) (n1 - n0) (c2 - n0), .agg #[.string f.a, .string f.b, .string f.c, .string f.d, .string f.e, .string f.f, .bool f.x]] W (SelRet W L)) := hid (fun W h => by
            have q := select_any f (some ⟨g, n0 * 6, none⟩) m (c2 - n0) W (.inr ⟨g, _, rfl⟩) hff h (by omega) (by omega) hfc ((isB_asc tot m).2 HCA.out)
            rw [HSC.out, hcut] at q; exact q)
          go_region_held3 (fun w' => w'.cell? ⟨o, 0, none⟩ = some (.string f.a) ∧ w'.cell? ⟨o, 1, none⟩ = some (.string f.b) ∧ w'.cell? ⟨o, 2, none⟩ = some (.string f.c) ∧ w'.cell? ⟨o, 3, none⟩ = some (.string f.d) ∧ w'.cell? ⟨o, 4, none⟩ = some (.string f.e) ∧ w'.cell? ⟨o, 5, none⟩ = some (.string f.f) ∧ w'.cell? ⟨o, 6, none⟩ = some (.bool f.x) ∧ o < w'.heap.size) (first | assumption | exact fb_keep (by assumption) (by assumption) | exact fb_keep (g_drew g_refl) (by assumption))
            (first | (go_at_call 19; (with_reducible refine (HSel.out _ (by first | exact HRW.out | exact HRW.out.below (g_drew g_refl))).mono ?_); rintro r w' ⟨A', rfl, hR', -, hw'⟩))
          all_goals
            have hA' := g_trans (g_drew (g_refl (a := w10))) hw'
            go_wp2_with fail
            go_meet
            exact ⟨A', rfl, rfl, hR', HR10.out.below hA', HS10.out.below hA', HF10.out.keep hA', g_trans hB10.out hA'⟩
    case rest =>
      obtain ⟨A', rfl, rfl, hR', hRl, hR4', hFB, hB⟩ := hcut
      have HFB := hid hFB
      have HRl := hid hRl
      have HR' := hid hR'
      have HR4' := hid hR4'
      clear hFB hRl hR' hR4'
      go_wp2
      go_loopw [17] (fun i wr => ∃ k : Nat, k ≤ l.length ∧ i = .int .i64 k ∧ Grew wc wr) (fun i _ => l.length - (intOf i).toNat)
      case atStart => exact ⟨0, Nat.zero_le _, rfl, gw_refl⟩
      case round =>
        obtain ⟨k, hk, rfl, hw⟩ := hrel
        by_cases hlt : k < l.length
        · obtain ⟨b, o2, rfl, hL⟩ := (HRl.out.gw hw).at_ hlt
          obtain ⟨q0, q1, q2, q3, q4, q5⟩ := hL.six hlt
          obtain ⟨p0, p1, p2, p3, p4, p5, p6⟩ := (HFB.out.keep hw.toBelow).grown
          clear hL
          cases hu : takes f l[k]
          · have HU := hid hu; clear hu
            go_wp2_with fail
            go_quiet_grown (first | (go_at_call 26; with_reducible exact ftakes_qa f l[k] false HU.out _ _ _) | (go_at_call 26; with_reducible exact ftakes_qz l[k] _ _ _) | (go_at_call 27; with_reducible exact rtakes_qa f l[k] 0 (tkI_no HU.out) _ _ _))
            go_wp2
            go_roundw
            case rel => exact ⟨k + 1, by omega, by go_num, gw_grow (gw_drewN hw _) _⟩
            case measure => simp [intOf]; omega
          · have HU := hid hu; clear hu
            go_wp2_with fail
            go_quiet_grown (first | (go_at_call 26; with_reducible exact ftakes_qa f l[k] true HU.out _ _ _) | (go_at_call 26; with_reducible exact ftakes_qz l[k] _ _ _) | (go_at_call 27; with_reducible exact rtakes_qa f l[k] 1 (tkI_yes HU.out) _ _ _))
            go_wp2
            go_roundw
            case rel => exact ⟨k + 1, by omega, by go_num, gw_grow (gw_drewN hw _) _⟩
            case measure => simp [intOf]; omega
        · have HRA := hid (HR'.out.gw hw)
          have HRB := hid (HR4'.out.gw hw)
          go_wp2_with fail
          refine (rsame_v A' A4 L L L.length L.length 1 _ HRA.out HRB.out (by omega) (same_self L)).mono ?_
          rintro e w11 ⟨rfl, hw11⟩
          go_wp2_with fail
          refine (flives _).mono ?_
          rintro e w12 ⟨rfl, hw12⟩
          go_wp2
          go_ret
          exact ⟨rfl, g_trans (g_trans (g_trans hB hw.toBelow) hw11.toBelow) hw12⟩
end Go.Proofs.Yteogmfgabnpleaa
