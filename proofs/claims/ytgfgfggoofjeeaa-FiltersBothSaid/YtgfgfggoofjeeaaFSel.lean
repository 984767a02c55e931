/-
  THE CONTRACTS of filters.Span and Select, and of slices.Clip.
-/
import Derived.Test.YtgfgfggoofjeeaaFOrd
import Derived.Test.YtgfgfggoofjeeaaFClp
import Derived.Test.YtgfgfggoofjeeaaTCho
namespace Go.Proofs.Ytgfgfggoofjeeaa
open Go.RowKit Go.Sort

/-- the number of the error of a span -/
def serr (f : Fil) (l : List Tup) : Int := if fchk f = 0 then (if isB cmpT l = true then 0 else 18) else fchk f
theorem serr_chk {f : Fil} {l : List Tup} (h : ¬ fchk f = 0) : serr f l = fchk f := by unfold serr; rw [if_neg h]
theorem serr_ord {f : Fil} {l : List Tup} (h : fchk f = 0) (k : isB cmpT l = false) : serr f l = 18 := by unfold serr; rw [if_pos h, if_neg (by rw [k]; decide)]
theorem serr_ok {f : Fil} {l : List Tup} (h : fchk f = 0) (k : isB cmpT l = true) : serr f l = 0 := by unfold serr; rw [if_pos h, if_pos k]
theorem fcheck_v (a b c d e f : ByteArray) (x : Bool) (n : Int) (w : World) (h : FitF ⟨a, b, c, d, e, f, x⟩) (hn : fchk ⟨a, b, c, d, e, f, x⟩ = n) :
    Calls Try.prog 32 #[.agg #[.string a, .string b, .string c, .string d, .string e, .string f, .bool x]] w fun r w' => r = .returned (.int .i64 n) ∧ Below w.heap.size w w' := by
  have q := fcheck ⟨a, b, c, d, e, f, x⟩ w h; rw [hn] at q; exact q
set_option maxRecDepth 20000 in
set_option maxHeartbeats 2000000 in
theorem span_chk (f : Fil) (v : Value) (n : Int) (w : World) (hF : FitF f) (hn : fchk f = n) (h0 : ¬ n = 0) :
    Calls Try.prog 13 #[v, valF f] w fun r w' => r = .returned (.tuple #[.int .i64 0, .int .i64 0, .int .i64 n]) ∧ Below w.heap.size w w' := by
  obtain ⟨a, b, c, d, e, f, x⟩ := f
  simp only [valF]
  have HN := hid hn; clear hn
  go_enter Try.func13, Try.ntmps13
  go_wp2_with fail
  refine (fcheck_v a b c d e f x n _ hF HN.out).mono ?_
  rintro r w1 ⟨rfl, hw1⟩
  go_wp2
  go_ret3
  exact ⟨rfl, g_trans (g_alloc g_refl _) hw1⟩
set_option maxRecDepth 20000 in
set_option maxHeartbeats 2000000 in
theorem span_ord (f : Fil) (A : Option Addr) (l : List Tup) (k : Nat) (w : World) (hF : FitF f) (hR : Row w A l) (hn : l.length ≤ maxLen) (h0 : fchk f = 0) (h1 : isB cmpT l = false) :
    Calls Try.prog 13 #[.slice A l.length k, valF f] w fun r w' => r = .returned (.tuple #[.int .i64 0, .int .i64 0, .int .i64 18]) ∧ Below w.heap.size w w' := by
  obtain ⟨a, b, c, d, e, f, x⟩ := f
  simp only [valF]
  have HN := hid h0; clear h0
  have H1 := hid h1; clear h1
  have HR := hid hR; clear hR
  go_enter Try.func13, Try.ntmps13
  go_wp2_with fail
  refine (fcheck_v a b c d e f x 0 _ hF HN.out).mono ?_
  rintro r w1 ⟨rfl, hw1⟩
  have hB1 := g_trans (g_alloc g_refl _) hw1
  go_wp2_with fail
  refine (tis_v A l k false _ (HR.out.below hB1) hn H1.out).mono ?_
  rintro r w2 ⟨rfl, hw2⟩
  go_wp2
  go_ret3
  exact ⟨rfl, g_trans hB1 hw2.toBelow⟩
set_option maxRecDepth 20000 in
set_option maxHeartbeats 2000000 in
theorem span_ok (f : Fil) (A : Option Addr) (l : List Tup) (k : Nat) (w : World) (hF : FitF f) (hR : Row w A l) (hn : l.length ≤ 1000000000) (h0 : fchk f = 0) (h1 : isB cmpT l = true) :
    Calls Try.prog 13 #[.slice A l.length k, valF f] w fun r w' => r = .returned (.tuple #[.int .i64 (lo f l), .int .i64 (hi f l), .int .i64 0]) ∧ Below w.heap.size w w' := by
  have s1 := fun (B : Option Addr) (m : Nat) (z : Int) (w : World) (h : Row w B l) => search_any f B l m z w h ((isB_asc tot l).1 h1) hn
  have S1 := hid s1; clear s1
  obtain ⟨a, b, c, d, e, f, x⟩ := f
  simp only [valF] at *
  have HN := hid h0; clear h0
  have H1 := hid h1; clear h1
  have HR := hid hR; clear hR
  go_enter Try.func13, Try.ntmps13
  go_wp2_with fail
  refine (fcheck_v a b c d e f x 0 _ hF HN.out).mono ?_
  rintro r w1 ⟨rfl, hw1⟩
  have hB1 := g_trans (g_alloc g_refl _) hw1
  go_wp2_with fail
  refine (tis_v A l k true _ (HR.out.below hB1) (Nat.le_trans hn (by decide)) H1.out).mono ?_
  rintro r w2 ⟨rfl, hw2⟩
  have hB2 := g_trans hB1 hw2.toBelow
  have HFB : Hid (FB w2 w.heap.size ⟨a, b, c, d, e, f, x⟩) := hid (FB.keep (FB.keep (by simp only [FB]; exact ⟨by go_simp, by go_simp, by go_simp, by go_simp, by go_simp, by go_simp, by go_simp, by simp⟩) hw1) hw2.toBelow)
  clear hw1 hB1 hw2
  obtain ⟨p0, p1, p2, p3, p4, p5, p6, p7⟩ := HFB.out
  go_wp2_with fail
  refine (S1.out A k 0 _ (HR.out.below hB2)).mono ?_
  rintro r w3 ⟨rfl, hw3⟩
  have hB3 := g_trans hB2 hw3.toBelow
  clear p0 p1 p2 p3 p4 p5 p6 p7 HFB hB2 hw3
  go_wp2_with fail
  refine (S1.out A k 1 _ (HR.out.below hB3)).mono ?_
  rintro r w4 ⟨rfl, hw4⟩
  go_wp2
  go_ret3
  exact ⟨rfl, g_trans hB3 hw4.toBelow⟩

set_option maxRecDepth 20000 in
set_option maxHeartbeats 2000000 in
theorem sel_err (f : Fil) (v : Value) (n : Int) (w : World) (h0 : ¬ n = 0) (hS : ∀ w', Below w.heap.size w w' → Calls Try.prog 13 #[v, valF f] w' fun r w'' => r = .returned (.tuple #[.int .i64 0, .int .i64 0, .int .i64 n]) ∧ Below w'.heap.size w' w'') :
    Calls Try.prog 14 #[v, valF f] w fun r w' => r = .returned (.tuple #[.slice none 0 0, .int .i64 n]) ∧ Below w.heap.size w w' := by
  have H1 := hid (hS (w.alloc (.cells #[.string f.a, .string f.b, .string f.c, .string f.d, .string f.e, .string f.f, .bool f.x] 35)) (g_alloc g_refl _))
  clear hS
  obtain ⟨a, b, c, d, e, f, x⟩ := f
  simp only [valF] at *
  go_enter Try.func14, Try.ntmps14
  go_wp2_with fail
  refine H1.out.mono ?_
  rintro r w1 ⟨rfl, hw1⟩
  go_wp2
  go_ret2
  exact ⟨rfl, g_trans (g_alloc g_refl _) hw1⟩

/-- what select leaves -/
def SelRet (w : World) (L : List Tup) (e : Ending) (w' : World) : Prop := ∃ A, e = .returned (.tuple #[.slice A L.length L.length, .int .i64 0]) ∧ Row w' A L ∧ ((A = none ∧ L = []) ∨ ∃ g, A = some ⟨g, 0, none⟩) ∧ Below w.heap.size w w'
theorem cut_row {w : World} {b o : Nat} {l : List Tup} {f : Fil} (h : Row w (some ⟨b, o, none⟩) l) : Row w (some ⟨b, o + lo f l * 6, none⟩) (cutL f l) := fun hne => by
  obtain ⟨b', o', e, hb, hL⟩ := h (fun e => hne (by subst e; rfl))
  injection e with e; injection e with e1 e2; subst e1; subst e2
  refine ⟨b, _, rfl, hb, fun i hi c v hv => ?_⟩
  have hl := cut_len f l
  have hh := hi_le f l
  have e : (cutL f l)[i] = l[lo f l + i]'(by omega) := by simp [cutL]
  rw [e] at hv
  have h1 := hL (lo f l + i) (by omega) c v hv
  rw [show o + lo f l * 6 + i * 6 + c = o + (lo f l + i) * 6 + c by rw [Nat.add_mul]; omega]
  exact h1
set_option maxRecDepth 20000 in
set_option maxHeartbeats 4000000 in
theorem sel_ok (f : Fil) (b o : Nat) (l : List Tup) (k : Nat) (w : World) (hF : FitF f) (hR : Row w (some ⟨b, o, none⟩) l) (hk : l.length ≤ k) (hn : l.length ≤ 1000) (h0 : fchk f = 0) (h1 : isB cmpT l = true) (hkl : ¬ k - lo f l = 0) :
    Calls Try.prog 14 #[.slice (some ⟨b, o, none⟩) l.length k, valF f] w (SelRet w (l.filter (takes f))) := by
  have S1 := hid (span_ok f (some ⟨b, o, none⟩) l k (w.alloc (.cells #[.string f.a, .string f.b, .string f.c, .string f.d, .string f.e, .string f.f, .bool f.x] 35)) hF (hR.below (g_alloc g_refl _)) (Nat.le_trans hn (by decide)) h0 h1)
  have hlo := lo_le f l
  have hhi := hi_le f l
  have HRC := hid (cut_row (f := f) hR)
  have hml := cut_len f l
  rw [← sel_cut ((isB_asc tot l).1 h1) f]
  clear hR h0 h1 hF
  obtain ⟨a, b', c, d, e, f, x⟩ := f
  simp only [valF] at *
  generalize cutL ⟨a, b', c, d, e, f, x⟩ l = m at *
  generalize lo ⟨a, b', c, d, e, f, x⟩ l = n0 at *
  generalize hi ⟨a, b', c, d, e, f, x⟩ l = n1 at *
  have hmn : (m.length : Int) = ((n1 - n0 : Nat) : Int) := by omega
  go_enter Try.func14, Try.ntmps14
  go_wp2_with fail
  refine S1.out.mono ?_
  rintro r w1 ⟨rfl, hw1⟩
  have HFB : Hid (FB w1 w.heap.size ⟨a, b', c, d, e, f, x⟩) := hid (FB.keep (by simp only [FB]; exact ⟨by go_simp, by go_simp, by go_simp, by go_simp, by go_simp, by go_simp, by go_simp, by simp⟩) hw1)
  have hB1 := g_trans (g_alloc g_refl _) hw1
  have HRC1 := hid (HRC.out.below hB1)
  clear hw1 S1 HRC
  go_wp2
  go_loopw [9, 27] (fun v i wr => ∃ j : Nat, j ≤ m.length ∧ i = .int .i64 j ∧ Own wr w1.heap.size v (selK ⟨a, b', c, d, e, f, x⟩ m j) ∧ Grew w1 wr) (fun _ i _ => m.length - (intOf i).toNat)
  case atStart => exact ⟨0, Nat.zero_le _, rfl, Own.nil _ _, gw_refl⟩
  case round =>
    obtain ⟨j, hj, rfl, hown, hw⟩ := hrel
    have HO := hid hown; clear hown
    by_cases hlt : j < m.length
    · obtain ⟨b2, o2, e2, hL⟩ := (HRC1.out.gw hw).at_ hlt
      injection e2 with e2; injection e2 with e3 e4; subst e3; subst e4
      obtain ⟨q0, q1, q2, q3, q4, q5⟩ := (hL.six hlt).at0
      obtain ⟨p0, p1, p2, p3, p4, p5, p6, p7⟩ := HFB.out.keep hw.toBelow
      clear hL
      have hltn : j < n1 - n0 := by omega
      cases hu : takes ⟨a, b', c, d, e, f, x⟩ m[j]
      · have HU := hid hu; clear hu
        go_wp2_with fail
        refine (ftakes_v a b' c d e f x m[j] false _ HU.out).mono ?_
        rintro r w2 ⟨rfl, hw2⟩
        go_wp2
        go_roundw
        case rel => exact ⟨j + 1, by omega, by go_num, by rw [selK_no hlt HU.out]; exact (HO.out.gw (gw_alloc gw_refl _)).gw hw2, gw_trans (gw_alloc hw _) hw2⟩
        case measure => simp [intOf]; omega
      · have HU := hid hu; clear hu
        have hlen := selK_len ⟨a, b', c, d, e, f, x⟩ m j
        go_wp2_with fail
        refine (ftakes_v a b' c d e f x m[j] true _ HU.out).mono ?_
        rintro r w2 ⟨rfl, hw2⟩
        have hO2 := (HO.out.gw (gw_alloc gw_refl _)).gw hw2
        have HT : Hid (Tc w2 wr.heap.size m[j]) := hid (Tc.keep (by simp only [Tc]; exact ⟨by go_simp, by go_simp, by go_simp, by go_simp, by go_simp, by go_simp, by simp⟩) hw2.toBelow)
        have hW2 := gw_trans (gw_alloc hw _) hw2
        have hz := hW2.size
        clear hw2 p0 p1 p2 p3 p4 p5 p6 p7 q0 q1 q2 q3 q4 q5
        obtain ⟨t0, t1, t2, t3, t4, t5, t6⟩ := HT.out
        go_wp2_with (at_builtin; refine wp_app _ _ rfl rfl w1.heap.size _ (selK ⟨a, b', c, d, e, f, x⟩ m j) w2.heap.size 1 m[j] rfl rfl (hO2.gw (gw_alloc gw_refl _)) (new_cells w2 m[j] _) (by omega) (by simp; omega) ?_)
        intro v5 w5 hown5 hg5 hd5
        have hw5 : Grew w1 w5 := gw_grown (gw_alloc hW2 _) hg5 hd5 fun g hg => (hO2.lt g hg).1
        go_wp2
        go_roundw
        case rel => exact ⟨j + 1, by omega, by go_num, by rw [← selK_yes hlt HU.out]; exact hown5, hw5⟩
        case measure => simp [intOf]; omega
    · have hltn : ¬ j < n1 - n0 := by omega
      have HE := hid (selK_end (f := ⟨a, b', c, d, e, f, x⟩) hlt)
      have hO := HO.out
      rw [HE.out] at hO
      generalize m.filter (takes ⟨a, b', c, d, e, f, x⟩) = L at *
      rcases hO.form with ⟨rfl, hl⟩ | ⟨g, cap, rfl, hcap, hRL⟩
      · go_wp2_with fail
        refine (clip_nil 0 _).mono ?_
        rintro r w' ⟨rfl, rfl⟩
        go_wp2
        go_ret2
        exact ⟨none, by rw [hl]; rfl, by rw [hl]; exact Row.nil _ _, .inl ⟨rfl, hl⟩, g_trans hB1 hw.toBelow⟩
      · have HRL := hid hRL; clear hRL
        go_wp2_with fail
        refine (clip_some g 0 L.length cap _ hcap).mono ?_
        rintro r w' ⟨rfl, rfl⟩
        go_wp2
        go_ret2
        exact ⟨_, rfl, HRL.out, .inr ⟨g, rfl⟩, g_trans hB1 hw.toBelow⟩
theorem span_none (f : Fil) : lo f [] = 0 ∧ hi f [] = 0 := ⟨rfl, rfl⟩
set_option maxRecDepth 20000 in
set_option maxHeartbeats 2000000 in
theorem sel_none (f : Fil) (w : World) (hF : FitF f) (h0 : fchk f = 0) :
    Calls Try.prog 14 #[.slice none 0 0, valF f] w (SelRet w []) := by
  have S1 := hid (span_ok f none [] 0 (w.alloc (.cells #[.string f.a, .string f.b, .string f.c, .string f.d, .string f.e, .string f.f, .bool f.x] 35)) hF (Row.nil _ _) (by decide) h0 rfl)
  rw [(span_none f).1, (span_none f).2] at S1
  obtain ⟨a, b', c, d, e, f, x⟩ := f
  simp only [valF] at *
  go_enter Try.func14, Try.ntmps14
  go_wp2_with fail
  refine S1.out.mono ?_
  rintro r w1 ⟨rfl, hw1⟩
  have hB1 := g_trans (g_alloc g_refl _) hw1
  clear hw1 S1
  go_wp2
  go_loopw [9, 27] (fun v i wr => v = .slice none 0 0 ∧ i = .int .i64 0 ∧ Grew w1 wr) (fun _ _ _ => 0)
  case atStart => exact ⟨rfl, rfl, gw_refl⟩
  case round =>
    obtain ⟨rfl, rfl, hw⟩ := hrel
    go_wp2_with fail
    refine (clip_nil 0 _).mono ?_
    rintro r w' ⟨rfl, rfl⟩
    go_wp2
    go_ret2
    exact ⟨none, rfl, Row.nil _ _, .inl ⟨rfl, rfl⟩, g_trans hB1 hw.toBelow⟩
set_option maxRecDepth 20000 in
set_option maxHeartbeats 2000000 in
theorem sel_edge (f : Fil) (b o : Nat) (l : List Tup) (w : World) (hF : FitF f) (hR : Row w (some ⟨b, o, none⟩) l) (hn : l.length ≤ 1000) (h0 : fchk f = 0) (h1 : isB cmpT l = true) (hlo : lo f l = l.length) (hhi : hi f l = l.length) :
    Calls Try.prog 14 #[.slice (some ⟨b, o, none⟩) l.length l.length, valF f] w (SelRet w []) := by
  have S1 := hid (span_ok f (some ⟨b, o, none⟩) l l.length (w.alloc (.cells #[.string f.a, .string f.b, .string f.c, .string f.d, .string f.e, .string f.f, .bool f.x] 35)) hF (hR.below (g_alloc g_refl _)) (Nat.le_trans hn (by decide)) h0 h1)
  rw [hlo, hhi] at S1
  clear hR h0 h1 hF hlo hhi
  generalize l.length = n at *
  obtain ⟨a, b', c, d, e, f, x⟩ := f
  simp only [valF] at *
  go_enter Try.func14, Try.ntmps14
  go_wp2_with fail
  refine S1.out.mono ?_
  rintro r w1 ⟨rfl, hw1⟩
  have hB1 := g_trans (g_alloc g_refl _) hw1
  clear hw1 S1
  go_wp2
  go_loopw [9, 27] (fun v i wr => v = .slice none 0 0 ∧ i = .int .i64 0 ∧ Grew w1 wr) (fun _ _ _ => 0)
  case atStart => exact ⟨rfl, rfl, gw_refl⟩
  case round =>
    obtain ⟨rfl, rfl, hw⟩ := hrel
    go_wp2_with fail
    refine (clip_nil 0 _).mono ?_
    rintro r w' ⟨rfl, rfl⟩
    go_wp2
    go_ret2
    exact ⟨none, rfl, Row.nil _ _, .inl ⟨rfl, rfl⟩, g_trans hB1 hw.toBelow⟩
/-- Select of a sorted list -/
theorem select_any (f : Fil) (A : Option Addr) (l : List Tup) (k : Nat) (w : World) (hA : (A = none ∧ k = 0) ∨ ∃ b o, A = some ⟨b, o, none⟩) (hF : FitF f) (hR : Row w A l) (hk : l.length ≤ k) (hn : l.length ≤ 1000) (h0 : fchk f = 0) (h1 : isB cmpT l = true) :
    Calls Try.prog 14 #[.slice A l.length k, valF f] w (SelRet w (l.filter (takes f))) := by
  rcases hA with ⟨rfl, rfl⟩ | ⟨b, o, rfl⟩
  · have hl : l = [] := List.eq_nil_of_length_eq_zero (by omega)
    subst hl
    exact sel_none f w hF h0
  · by_cases hkl : k - lo f l = 0
    · have h2 := lo_le f l
      have h3 := hi_le f l
      have e1 : lo f l = l.length := by omega
      have e2 : hi f l = l.length := by omega
      have e3 : k = l.length := by omega
      subst e3
      have hm : cutL f l = [] := List.eq_nil_of_length_eq_zero (by rw [cut_len]; omega)
      rw [← sel_cut ((isB_asc tot l).1 h1) f, hm]
      exact sel_edge f b o l w hF hR hn h0 h1 e1 e2
    · exact sel_ok f b o l k w hF hR hk hn h0 h1 hkl
end Go.Proofs.Ytgfgfggoofjeeaa
