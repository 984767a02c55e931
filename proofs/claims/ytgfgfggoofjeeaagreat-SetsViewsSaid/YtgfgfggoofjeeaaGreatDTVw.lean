/-
  PLAIN FACTS: what Match takes is all that a filter takes; THE CONTRACTS of Goal and Subject.
-/
import Derived.Test.YtgfgfggoofjeeaaGreatDTMch
import Derived.Test.YtgfgfggoofjeeaaGreatTFact
namespace Go.Proofs.YtgfgfggoofjeeaaGreat.DT
open Go.RowKit Go.Deep

theorem cmpS_nxt (s : ByteArray) : cmpS s (nxt s) < 0 := by
  unfold nxt cmpS
  rw [show (s ++ ⟨#[0]⟩ : ByteArray).data.toList = s.data.toList ++ [0] by simp [ByteArray.data_append]]
  induction s.data.toList with
  | nil => decide
  | cons x r ih => simpa [Lib.compareBytes] using ih
theorem cmpS_pos {s : ByteArray} (h : s ≠ ⟨#[]⟩) : 0 < cmpS s ⟨#[]⟩ := by
  have h1 := cmpS_empty s
  rcases Int.lt_or_eq_of_le h1 with h2 | h2
  · exact h2
  · exact absurd (cmpS_zero h2.symm) h
theorem nb_ne {s : ByteArray} (h : nb s = true) : s ≠ ⟨#[]⟩ := fun e => by
  subst e
  rw [nb_empty emp] at h; cases h
theorem okF_full {u v : ByteArray} (h : okF u v = true) (k : u.toList.isEmpty = false) : v = u := by
  unfold okF at h
  rw [k, Bool.false_or] at h
  exact (of_decide_eq_true h).symm
theorem takes_parts {f : Fil} {t : Tup} (h : takes f t = true) : okF f.a t.a = true ∧ okF f.b t.b = true ∧ okF f.c t.c = true ∧ (f.x = true → f.d = t.d ∧ f.e = t.e ∧ f.f = t.f) := by
  unfold takes at h
  simp only [Bool.and_eq_true] at h
  obtain ⟨⟨⟨h1, h2⟩, h3⟩, h4⟩ := h
  refine ⟨h1, h2, h3, fun hx => ?_⟩
  rw [hx] at h4
  exact of_decide_eq_true (by simpa using h4)
theorem okT_parts {t : Tup} (h : okT t = true) : nb t.a = true ∧ nb t.b = true ∧ nb t.c = true ∧ okSub t.d t.e t.f = true := by
  unfold okT at h
  simp only [Bool.and_eq_true] at h
  exact ⟨h.1.1.1, h.1.1.2, h.1.2, h.2⟩
theorem lex6 (x y : Tup) : cmpT x y = lexS [(x.a, y.a), (x.b, y.b), (x.c, y.c), (x.d, y.d), (x.e, y.e), (x.f, y.f)] := cmpT_lex x y
theorem lexS_z {a b : ByteArray} {r : List (ByteArray × ByteArray)} (h : b = a) : lexS ((a, b) :: r) = lexS r := by
  subst h; rw [lexS]; rw [if_pos (cmpS_self _)]
theorem lexS_n {a b : ByteArray} {r : List (ByteArray × ByteArray)} (h : ¬ cmpS a b = 0) : lexS ((a, b) :: r) = cmpS a b := by
  rw [lexS]; rw [if_neg h]
/-- what a valid filter takes lies in the span -/
theorem in_sp {f : Fil} {t : Tup} (hf : fchk f = 0) (ht : takes f t = true) (hv : okT t = true) (hp : ¬ fpre f = 0) : ¬ cmpT t (fstT f) < 0 ∧ cmpT t (behT f) < 0 := by
  obtain ⟨t1, t2, t3, t4⟩ := takes_parts ht
  obtain ⟨v1, v2, v3, v4⟩ := okT_parts hv
  unfold fstT behT
  obtain ⟨fa, fb, fc, fd, fe, ff, fx⟩ := f
  obtain ⟨ta, tb, tc, td, te, tf⟩ := t
  simp only at *
  cases ea : fa.toList.isEmpty
  · have e1 := okF_full t1 ea
    subst e1
    cases eb : fb.toList.isEmpty
    · have e2 := okF_full t2 eb
      subst e2
      cases ec : fc.toList.isEmpty
      · have e3 := okF_full t3 ec
        subst e3
        cases fx
        · have hp3 := fpre3 (f := ⟨ta, tb, tc, fd, fe, ff, false⟩) ea eb ec rfl
          rw [if_neg (by rw [hp3]; decide), if_neg (by rw [hp3]; decide), if_pos hp3]
          have hn : noS ⟨ta, tb, tc, fd, fe, ff, false⟩ = true := by
            cases hs : noS ⟨ta, tb, tc, fd, fe, ff, false⟩
            · rw [fchk_form rfl hs] at hf; cases hf
            · rfl
          unfold noS at hn
          simp only [Bool.and_eq_true] at hn
          have d1 := empty_of hn.1.1
          have d2 := empty_of hn.1.2
          have d3 := empty_of hn.2
          subst d1; subst d2; subst d3
          constructor
          · rw [lex6]; simp only
            rw [lexS_z rfl, lexS_z rfl, lexS_z rfl]
            have := lex_empty [td, te, tf]
            simp only [List.map_cons, List.map_nil] at this
            omega
          · rw [lex6]; simp only
            have := cmpS_nxt tc
            rw [lexS_z rfl, lexS_z rfl, lexS_n (by omega)]; exact this
        · have hp4 := fpre4 (f := ⟨ta, tb, tc, fd, fe, ff, true⟩) ea eb ec rfl
          rw [if_neg (by rw [hp4]; decide), if_neg (by rw [hp4]; decide), if_neg (by rw [hp4]; decide)]
          obtain ⟨e4, e5, e6⟩ := t4 rfl
          subst e4; subst e5; subst e6
          constructor
          · rw [tot.self]; decide
          · rw [lex6]; simp only
            have := cmpS_nxt ff
            rw [lexS_z rfl, lexS_z rfl, lexS_z rfl, lexS_z rfl, lexS_z rfl, lexS_n (by omega)]; exact this
      · have hp2 := fpre2 (f := ⟨ta, tb, fc, fd, fe, ff, fx⟩) ea eb ec
        have e3 := empty_of ec
        subst e3
        rw [if_neg (by rw [hp2]; decide), if_pos hp2]
        constructor
        · rw [lex6]; simp only
          have := cmpS_pos (nb_ne v3)
          rw [lexS_z rfl, lexS_z rfl, lexS_n (by omega)]; omega
        · rw [lex6]; simp only
          have := cmpS_nxt tb
          rw [lexS_z rfl, lexS_n (by omega)]; exact this
    · have hp1 := fpre1 (f := ⟨ta, fb, fc, fd, fe, ff, fx⟩) ea eb
      have e2 := empty_of eb
      subst e2
      rw [if_pos hp1]
      constructor
      · rw [lex6]; simp only
        have := cmpS_pos (nb_ne v2)
        rw [lexS_z rfl, lexS_n (by omega)]; omega
      · rw [lex6]; simp only
        have := cmpS_nxt ta
        rw [lexS_n (by omega)]; exact this
  · exact absurd (fpre0 (f := ⟨fa, fb, fc, fd, fe, ff, fx⟩) ea) hp
theorem rk_lt_iff {l : List Tup} (hl : Asc cmpT l) (k : Tup) (i : Nat) (h : i < l.length) : cmpT l[i] k < 0 ↔ i < Tr.rk l k := by
  have := cnt_lt (fun t => decide (cmpT t k < 0)) (l := l) (hl.imp fun {x y} hxy e => by simp at e ⊢; exact tot.lt_trans hxy e) i h
  simpa [Tr.rk] using this
/-- the filter over the span is the filter over all -/
theorem sp_filter {f : Fil} {l : List Tup} (hl : Asc cmpT l) (hv : ∀ t ∈ l, okT t = true) (hf : fchk f = 0) : (spL f l).filter (takes f) = l.filter (takes f) := by
  by_cases hp : fpre f = 0
  · unfold spL spA spB
    rw [if_pos hp, if_pos hp, List.drop_zero, Nat.sub_zero, List.take_length]
  · have h1 : ∀ m : List Tup, (∀ t ∈ m, ¬ takes f t = true) → m.filter (takes f) = [] := fun m hm => List.filter_eq_nil_iff.2 hm
    have ea : spA f l = Tr.rk l (fstT f) := by unfold spA; rw [if_neg hp]
    have eb : spB f l = Tr.rk l (behT f) := by unfold spB; rw [if_neg hp]
    have e : l = l.take (spA f l) ++ (spL f l ++ (l.drop (spA f l)).drop (spB f l - spA f l)) := by
      unfold spL; rw [List.take_append_drop, List.take_append_drop]
    conv => rhs; rw [e]
    rw [List.filter_append, List.filter_append, h1 (l.take (spA f l)) ?_, h1 ((l.drop (spA f l)).drop (spB f l - spA f l)) ?_, List.nil_append, List.append_nil]
    · intro t ht hk
      rw [List.drop_drop] at ht
      obtain ⟨i, hi, rfl⟩ := List.getElem_of_mem ht
      rw [List.getElem_drop] at hk
      rw [List.length_drop] at hi
      have hlt : spA f l + (spB f l - spA f l) + i < l.length := by omega
      have := (in_sp hf hk (hv _ (List.getElem_mem hlt)) hp).2
      have := (rk_lt_iff hl (behT f) _ hlt).1 this
      omega
    · intro t ht hk
      obtain ⟨i, hi, rfl⟩ := List.getElem_of_mem ht
      rw [List.getElem_take] at hk
      rw [List.length_take] at hi
      have hlt : i < l.length := by omega
      have h2 := (in_sp hf hk (hv _ (List.getElem_mem hlt)) hp).1
      have h3 := mt (rk_lt_iff hl (fstT f) i hlt).2 h2
      omega
theorem sm_of {f : Fil} (hf : fchk f = 0) : SmF f := by
  have o : ∀ s : ByteArray, okN s = true → s.size ≤ 100 := fun s h => by
    unfold okN at h
    rw [Bool.or_eq_true] at h
    rcases h with h | h
    · rw [empty_of h]; exact Nat.zero_le _
    · have := nb_small h; omega
  have em : ∀ s : ByteArray, s.toList.isEmpty = true → s.size ≤ 100 := fun s h => by rw [empty_of h]; exact Nat.zero_le _
  unfold fchk at hf
  split at hf
  · cases hf
  · rename_i h0
    split at hf
    · rename_i h
      simp only [Bool.and_eq_true, Bool.or_eq_true, Bool.not_eq_true'] at h
      obtain ⟨⟨⟨h1, h2⟩, h3⟩, h4⟩ := h
      refine ⟨o _ h1, o _ h2, o _ h3, ?_⟩
      cases hx : f.x
      · rw [hx] at h0
        simp only [Bool.not_false, Bool.true_and, Bool.not_eq_true', Bool.not_eq_false] at h0
        unfold noS at h0
        simp only [Bool.and_eq_true] at h0
        exact ⟨em _ h0.1.1, em _ h0.1.2, em _ h0.2⟩
      · have h5 := h4.resolve_left (by rw [hx]; decide)
        unfold okSub at h5
        simp only [Bool.and_eq_true, Bool.or_eq_true] at h5
        obtain ⟨⟨s1, s2⟩, s3⟩ := h5
        refine ⟨by have := nb_small s1; omega, by have := nb_small s2; omega, ?_⟩
        rcases s3 with s3 | s3
        · exact em _ s3
        · have := nb_small s3; omega
    · cases hf
/-- what Match gives -/
def mtc (f : Fil) (l : List Tup) : List Tup := if fchk f = 0 then l.filter (takes f) else []
/-- a set: its map, valid tuples, not too many -/
structure SetL (w : World) (ov : Value) (T : Tr) (l : List Tup) : Prop extends MapL w ov T l where
  ok : ∀ t ∈ l, okT t = true
  len : l.length ≤ 4096
theorem SetL.below {w w' : World} {ov : Value} {T : Tr} {l : List Tup} (h : SetL w ov T l) (hb : Below w.heap.size w w') : SetL w' ov T l := ⟨h.toMapL.below hb, h.ok, h.len⟩
theorem match_n (f : Fil) {w : World} {ov : Value} {T : Tr} {l : List Tup} (h : SetL w ov T l) (hF : FitF f) :
    Calls Tryz.prog 11 #[.agg #[ov, .pointer T.ad], .agg #[.string f.a, .string f.b, .string f.c, .string f.d, .string f.e, .string f.f, .bool f.x]] w (GivesN w (mtc f l)) := by
  unfold mtc
  by_cases hc : fchk f = 0
  · rw [if_pos hc, ← sp_filter h.asc h.ok hc]
    exact match_ok_n f.a f.b f.c f.d f.e f.f f.x h.toMapL (Nat.le_trans h.len (by decide)) hc hF (sm_of hc)
  · rw [if_neg hc]
    exact match_bad_n f.a f.b f.c f.d f.e f.f f.x _ rfl hc hF
/-- the tuples with a goal, and those with a subject -/
def ofG (a b c : ByteArray) (l : List Tup) : List Tup := l.filter fun t => decide (t.a = a ∧ t.b = b ∧ t.c = c)
def ofU (d e f : ByteArray) (l : List Tup) : List Tup := l.filter fun t => decide (t.d = d ∧ t.e = e ∧ t.f = f)
theorem okF_ne {u v : ByteArray} (h : u ≠ ⟨#[]⟩) : okF u v = decide (v = u) := by
  unfold okF
  cases e : u.toList.isEmpty
  · rw [Bool.false_or]; exact decide_eq_decide.2 eq_comm
  · exact absurd (empty_of e) h
theorem mtc_goal {a b c : ByteArray} {l : List Tup} (h : (nb a && nb b && nb c) = true) : mtc ⟨a, b, c, ⟨#[]⟩, ⟨#[]⟩, ⟨#[]⟩, false⟩ l = ofG a b c l := by
  simp only [Bool.and_eq_true] at h
  obtain ⟨⟨h1, h2⟩, h3⟩ := h
  unfold mtc ofG
  rw [if_pos (fchk_ok (by unfold noS; simp) (by unfold okN; rw [h1, Bool.or_true]) (by unfold okN; rw [h2, Bool.or_true]) (by unfold okN; rw [h3, Bool.or_true]) rfl)]
  congr 1
  funext t
  unfold takes
  rw [okF_ne (nb_ne h1), okF_ne (nb_ne h2), okF_ne (nb_ne h3)]
  simp [Bool.decide_and, Bool.and_assoc]
theorem ofG_bad {a b c : ByteArray} {l : List Tup} (hv : ∀ t ∈ l, okT t = true) (h : (nb a && nb b && nb c) = false) : ofG a b c l = [] := by
  unfold ofG
  rw [List.filter_eq_nil_iff]
  intro t ht hk
  obtain ⟨h1, h2, h3⟩ := of_decide_eq_true hk
  obtain ⟨v1, v2, v3, -⟩ := okT_parts (hv t ht)
  rw [← h1, ← h2, ← h3, v1, v2, v3] at h
  cases h
theorem mtc_sub {d e f : ByteArray} {l : List Tup} (hv : ∀ t ∈ l, okT t = true) : mtc ⟨⟨#[]⟩, ⟨#[]⟩, ⟨#[]⟩, d, e, f, true⟩ l = ofU d e f l := by
  unfold mtc ofU
  have ho : okN (⟨#[]⟩ : ByteArray) = true := by unfold okN; rw [emp]; rfl
  have hc := fchk_end (f := ⟨⟨#[]⟩, ⟨#[]⟩, ⟨#[]⟩, d, e, f, true⟩) (u := okSub d e f) rfl ho ho ho rfl rfl
  rw [hc]
  cases hs : okSub d e f
  · rw [if_neg (by decide)]
    symm
    rw [List.filter_eq_nil_iff]
    intro t ht hk
    obtain ⟨h1, h2, h3⟩ := of_decide_eq_true hk
    obtain ⟨-, -, -, v4⟩ := okT_parts (hv t ht)
    rw [h1, h2, h3, hs] at v4
    cases v4
  · rw [if_pos (by rfl)]
    congr 1
    funext t
    unfold takes okF
    simp only [emp, Bool.true_or, Bool.and_true, Bool.true_and, Bool.not_true, Bool.false_or]
    exact decide_eq_decide.2 ⟨fun h => ⟨h.1.symm, h.2.1.symm, h.2.2.symm⟩, fun h => ⟨h.1.symm, h.2.1.symm, h.2.2.symm⟩⟩

theorem goal_world (w : World) (ov : Value) (p : Option Addr) (a b c : ByteArray) (t : TypeId) (W : World) (hW : W = (w.alloc (.cells #[ov, .pointer p] 38 (0, 0))).alloc (.cells #[.string a, .string b, .string c] t (0, 0))) :
    Below w.heap.size w W ∧ (W.cell? ⟨w.heap.size, 0, none⟩ = some ov ∧ W.cell? ⟨w.heap.size, 1, none⟩ = some (.pointer p)) ∧ (W.cell? ⟨w.heap.size + 1, 0, none⟩ = some (.string a) ∧ W.cell? ⟨w.heap.size + 1, 1, none⟩ = some (.string b) ∧ W.cell? ⟨w.heap.size + 1, 2, none⟩ = some (.string c)) := by
  obtain ⟨w1, h1⟩ : ∃ w1, w.alloc (.cells #[ov, .pointer p] 38 (0, 0)) = w1 := ⟨_, rfl⟩
  have s1 : w1.heap.size = w.heap.size + 1 := by rw [← h1]; simp
  have b1 : Below w.heap.size w w1 := by rw [← h1]; exact g_alloc g_refl _
  have m := box2p w ov (.pointer p) 38
  rw [h1] at m hW
  have b2 : Below w1.heap.size w1 W := by rw [hW]; exact g_alloc g_refl _
  have n := new_at w1 (.cells #[.string a, .string b, .string c] t (0, 0))
  rw [← hW, s1] at n
  have cc := fun j => box_cell n j
  exact ⟨g_trans b1 b2, keep2 b2 m, ⟨(cc 0).trans rfl, (cc 1).trans rfl, (cc 2).trans rfl⟩⟩
theorem keep3 {a b : World} {p0 p1 p2 o0 o1 o2 : Nat} {x0 x1 x2 : Value} (h : Below a.heap.size a b)
    (s : a.cell? ⟨p0, o0, none⟩ = some x0 ∧ a.cell? ⟨p1, o1, none⟩ = some x1 ∧ a.cell? ⟨p2, o2, none⟩ = some x2) :
    b.cell? ⟨p0, o0, none⟩ = some x0 ∧ b.cell? ⟨p1, o1, none⟩ = some x1 ∧ b.cell? ⟨p2, o2, none⟩ = some x2 :=
  ⟨keep1 h s.1, keep1 h s.2.1, keep1 h s.2.2⟩

set_option maxRecDepth 20000 in
set_option maxHeartbeats 2000000 in
theorem goal_n (a b c : ByteArray) {w : World} {ov : Value} {T : Tr} {l : List Tup} (h : SetL w ov T l) (ha : a.size ≤ maxLen) (hb : b.size ≤ maxLen) (hc : c.size ≤ maxLen) :
    Calls Tryz.prog 9 #[.agg #[ov, .pointer T.ad], .agg #[.string a, .string b, .string c]] w (GivesN w (ofG a b c l)) := by
  obtain ⟨hA, hM, hC⟩ := goal_world w ov T.ad a b c 45 _ rfl
  have HA := hid hA
  have HM := hid hM
  have HC := hid hC
  have HL := hid (h.below hA)
  cases hu : (nb a && nb b && nb c)
  · rw [ofG_bad h.ok hu]
    have HP := hid (fun W => goal_v a b c false W ha hb hc hu)
    clear h hA hM hC ha hb hc hu
    go_enter Tryz.func9, Tryz.ntmps9
    go_wp2_with fail
    refine (HP.out _).mono ?_
    rintro _ w1 ⟨rfl, hb1⟩
    simp only [err]
    go_wp2
    go_ret
    exact ⟨none, rfl, Row.nil _ _, g_trans HA.out hb1, Frs.none⟩
  · rw [← mtc_goal hu]
    have HP := hid (fun W => goal_v a b c true W ha hb hc hu)
    have HF : Hid (FitF ⟨a, b, c, ⟨#[]⟩, ⟨#[]⟩, ⟨#[]⟩, false⟩) := hid ⟨ha, hb, hc, Nat.zero_le _, Nat.zero_le _, Nat.zero_le _⟩
    clear h hA hM hC ha hb hc hu
    go_enter Tryz.func9, Tryz.ntmps9
    go_wp2_with fail
    refine (HP.out _).mono ?_
    rintro _ w1 ⟨rfl, hb1⟩
    obtain ⟨k0, k1⟩ := keep2 hb1 HM.out
    obtain ⟨g0, g1, g2⟩ := keep3 hb1 HC.out
    have HL1 := hid (HL.out.below hb1)
    have HB1 := hid hb1
    clear hb1
    simp only [err]
    go_wp2_with fail
    refine (match_n ⟨a, b, c, ⟨#[]⟩, ⟨#[]⟩, ⟨#[]⟩, false⟩ HL1.out HF.out).mono ?_
    rintro _ w2 ⟨A, rfl, hR, hb2, hF2⟩
    go_wp2
    go_ret
    exact ⟨A, rfl, hR, g_trans (g_trans HA.out HB1.out) hb2, fun a h => ⟨Nat.le_trans (g_trans HA.out HB1.out).size (hF2 a h).1, (hF2 a h).2⟩⟩
set_option maxRecDepth 20000 in
set_option maxHeartbeats 2000000 in
theorem subject_n (d e f : ByteArray) {w : World} {ov : Value} {T : Tr} {l : List Tup} (h : SetL w ov T l) (hd : d.size ≤ maxLen) (he : e.size ≤ maxLen) (hf : f.size ≤ maxLen) :
    Calls Tryz.prog 10 #[.agg #[ov, .pointer T.ad], .agg #[.string d, .string e, .string f]] w (GivesN w (ofU d e f l)) := by
  obtain ⟨hA, hM, hC⟩ := goal_world w ov T.ad d e f 46 _ rfl
  have HA := hid hA
  have HL := hid (h.below hA)
  rw [← mtc_sub h.ok]
  have HF : Hid (FitF ⟨⟨#[]⟩, ⟨#[]⟩, ⟨#[]⟩, d, e, f, true⟩) := hid ⟨Nat.zero_le _, Nat.zero_le _, Nat.zero_le _, hd, he, hf⟩
  clear h hA hM hC hd he hf
  go_enter Tryz.func10, Tryz.ntmps10
  go_wp2_with fail
  refine (match_n ⟨⟨#[]⟩, ⟨#[]⟩, ⟨#[]⟩, d, e, f, true⟩ HL.out HF.out).mono ?_
  rintro _ w2 ⟨A, rfl, hR, hb2, hF2⟩
  go_wp2
  go_ret
  exact ⟨A, rfl, hR, g_trans HA.out hb2, fun a h => ⟨Nat.le_trans HA.out.size (hF2 a h).1, (hF2 a h).2⟩⟩
theorem match_l (f : Fil) {w : World} {ov : Value} {T : Tr} {l : List Tup} (h : SetL w ov T l) (hF : FitF f) :
    Calls Tryz.prog 11 #[.agg #[ov, .pointer T.ad], .agg #[.string f.a, .string f.b, .string f.c, .string f.d, .string f.e, .string f.f, .bool f.x]] w (GivesR w (mtc f l)) := (match_n f h hF).mono fun _ _ h => h.r
theorem goal_l (a b c : ByteArray) {w : World} {ov : Value} {T : Tr} {l : List Tup} (h : SetL w ov T l) (ha : a.size ≤ maxLen) (hb : b.size ≤ maxLen) (hc : c.size ≤ maxLen) :
    Calls Tryz.prog 9 #[.agg #[ov, .pointer T.ad], .agg #[.string a, .string b, .string c]] w (GivesR w (ofG a b c l)) := (goal_n a b c h ha hb hc).mono fun _ _ h => h.r
theorem subject_l (d e f : ByteArray) {w : World} {ov : Value} {T : Tr} {l : List Tup} (h : SetL w ov T l) (hd : d.size ≤ maxLen) (he : e.size ≤ maxLen) (hf : f.size ≤ maxLen) :
    Calls Tryz.prog 10 #[.agg #[ov, .pointer T.ad], .agg #[.string d, .string e, .string f]] w (GivesR w (ofU d e f l)) := (subject_n d e f h hd he hf).mono fun _ _ h => h.r
end Go.Proofs.YtgfgfggoofjeeaaGreat.DT
