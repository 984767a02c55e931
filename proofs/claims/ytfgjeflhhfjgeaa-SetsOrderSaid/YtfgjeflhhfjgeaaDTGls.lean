/-
  THE CONTRACT of sets' Goals.
-/
import Derived.Test.YtfgjeflhhfjgeaaDTVw
import Derived.Test.YtfgjeflhhfjgeaaGEq
namespace Go.Proofs.Ytfgjeflhhfjgeaa.DT
open Go.RowKit Go.Deep

/-- one more goal, unless it is the last one -/
def addG (out : List Gl) (g : Gl) : List Gl := if out.getLast? = some g then out else out ++ [g]
def gls (l : List Tup) : List Gl := (l.map glT).foldl addG []
theorem gls_step {l : List Tup} {k : Nat} (h : k < l.length) : gls (l.take (k + 1)) = addG (gls (l.take k)) (glT l[k]) := by
  unfold gls
  rw [List.take_succ_eq_append_getElem h, List.map_append, List.foldl_append]; rfl
theorem gls_len (l : List Tup) : (gls l).length ≤ l.length := by
  have : ∀ (m : List Gl) (o : List Gl), (m.foldl addG o).length ≤ m.length + o.length := by
    intro m
    induction m with
    | nil => intro o; simp
    | cons x r ih =>
      intro o
      have h1 := ih (addG o x)
      have h2 : (addG o x).length ≤ o.length + 1 := by unfold addG; split <;> simp
      rw [List.foldl_cons, List.length_cons]; omega
  have := this (l.map glT) []
  simpa [gls] using this
theorem addG_nil (g : Gl) : addG [] g = [g] := by unfold addG; simp
theorem addG_same {out : List Gl} {g : Gl} (he : out[out.length - 1]? = some g) : addG out g = out := by
  unfold addG; rw [List.getLast?_eq_getElem?, he, if_pos rfl]
theorem addG_new {out : List Gl} {g x : Gl} (he : out[out.length - 1]? = some x) (hn : ¬ x = g) : addG out g = out ++ [g] := by
  unfold addG; rw [List.getLast?_eq_getElem?, he, if_neg (fun e => hn (by injection e))]
theorem formG {w : World} {base : Nat} {v : Value} {l : List Gl} (h : OwnG w base v l) :
    (v = .slice none 0 0 ∧ l = []) ∨ ∃ g cap, v = .slice (some ⟨g, 0, none⟩) l.length cap ∧ l.length ≤ cap ∧ g < w.heap.size ∧ (∀ i, (h : i < l.length) → ∀ c u, (encG l[i])[c]? = some u → w.cell? ⟨g, i * 3 + c, none⟩ = some u) ∧ RowG w (some ⟨g, 0, none⟩) l := by
  obtain ⟨A, c, hv, hR, hc, -⟩ := h.row
  have hr := h.2
  rcases h.2 with ⟨rfl, hn⟩ | ⟨g, cap, cur, rfl, hb, hg, hc', hm, hsz, ht⟩
  · exact .inl ⟨rfl, List.eq_nil_of_length_eq_zero hn⟩
  · injection hv with h1 h2 h3
    subst h1
    refine .inr ⟨g, cap, rfl, hc', (Array.getElem?_eq_some_iff.1 hg).1, fun i hi c u hu => ?_, hR⟩
    have hlt := encG_lt hu
    have h1 := World.ownsRow.cellAt h (i * 3 + c) (by have := Nat.mul_le_mul_right 3 (show i + 1 ≤ l.length from hi); omega)
    rw [flatG_get l i c hi hlt, hu] at h1
    exact h1
/-- what Goals gives -/
def GivesG (w : World) (l : List Gl) (e : Ending) (w' : World) : Prop := ∃ A, e = .returned (.slice A l.length l.length) ∧ RowG w' A l ∧ Below w.heap.size w w'
set_option maxHeartbeats 400000 in
theorem clipG_nil (c : Nat) (w : World) :
    Calls Try.prog 46 #[.slice none 0 c] w fun r w' => r = .returned (.slice none 0 0) ∧ w = w' := by
  go_enter Try.func46, Try.ntmps46
  go_wp2
  go_ret
  exact ⟨rfl, rfl⟩
set_option maxHeartbeats 400000 in
theorem clipG_some (b o n c : Nat) (w : World) (h : n ≤ c) :
    Calls Try.prog 46 #[.slice (some ⟨b, o, none⟩) n c] w fun r w' => r = .returned (.slice (some ⟨b, o, none⟩) n n) ∧ w = w' := by
  go_enter Try.func46, Try.ntmps46
  go_wp2
  go_ret
  exact ⟨rfl, rfl⟩
set_option maxRecDepth 20000 in
set_option maxHeartbeats 4000000 in
theorem goals_l {w : World} {ov : Value} {T : Tr} {l : List Tup} (h : MapL w ov T l) (hn : l.length ≤ 10000) :
    Calls Try.prog 24 #[.agg #[ov, .pointer T.ad]] w (GivesG w (gls l)) := by
  have hA : Below w.heap.size w (w.alloc (.cells #[ov, .pointer T.ad] 35 (0, 0))) := g_alloc g_refl _
  have HA := hid hA
  have HLS := hid (list_r (h.below hA) (Nat.le_trans hn (by decide)))
  clear h hA
  go_enter Try.func24, Try.ntmps24
  go_wp2_with fail
  generalize hA1 : (w.alloc (.cells #[ov, .pointer T.ad] 35 (0, 0))) = A1 at *
  generalize hq : w.heap.size = q at *
  have HQ := hid hq
  clear hA1 hq
  refine HLS.out.mono ?_
  rintro _ w1 ⟨A, rfl, hR, hb1⟩
  have HR := hid hR
  have HB1 := hid hb1
  clear hR hb1
  go_wp2
  go_loopw [3, 10] (fun v i wr => ∃ k : Nat, k ≤ l.length ∧ i = .int .i64 k ∧ OwnG wr w1.heap.size v (gls (l.take k)) ∧ Below w1.heap.size w1 wr) (fun _ i _ => l.length - (intOf i).toNat)
  case atStart => exact ⟨0, Nat.zero_le _, rfl, OwnG.nil _ _, g_refl⟩
  case round =>
    obtain ⟨k, hk, rfl, hown, hw⟩ := hrel
    have HO := hid hown
    have HW := hid hw
    by_cases hlt : k < l.length
    · obtain ⟨b, o, rfl, hLi⟩ := (HR.out.below hw).at_ hlt
      have e0 : wr.cell? ⟨b, o + k * 6, none⟩ = some (.string l[k].a) := hLi.2 k hlt 0 _ rfl
      have e1 : wr.cell? ⟨b, o + k * 6 + 1, none⟩ = some (.string l[k].b) := hLi.2 k hlt 1 _ rfl
      have e2 : wr.cell? ⟨b, o + k * 6 + 2, none⟩ = some (.string l[k].c) := hLi.2 k hlt 2 _ rfl
      have e3 : wr.cell? ⟨b, o + k * 6 + 3, none⟩ = some (.string l[k].d) := hLi.2 k hlt 3 _ rfl
      have e4 : wr.cell? ⟨b, o + k * 6 + 4, none⟩ = some (.string l[k].e) := hLi.2 k hlt 4 _ rfl
      have e5 : wr.cell? ⟨b, o + k * 6 + 5, none⟩ = some (.string l[k].f) := hLi.2 k hlt 5 _ rfl
      have hst := gls_step hlt
      generalize hx : l[k] = y at *
      have HX := hid hst
      have hgl := gls_len (l.take k)
      rw [List.length_take] at hgl
      generalize hL : gls (l.take k) = L at *
      have hLn : L.length ≤ 10000 := by omega
      rcases formG hown with ⟨rfl, hl⟩ | ⟨g, cap, rfl, hcap, hgs, hcl, hRL⟩
      · subst hl
        clear hown hw hLi hst hx hL hgl
        go_wp2_with fail
        go_quiet (fail)
        generalize hY : (wr.alloc (.cells #[.string y.a, .string y.b, .string y.c, .string y.d, .string y.e, .string y.f] 47 (0, 0))).drewN nq = W2 at *
        have hb2 : Below wr.heap.size wr W2 := by rw [← hY]; exact g_drewN (g_alloc g_refl _) nq
        have hbx : W2.cell? ⟨wr.heap.size, 0, none⟩ = some (.string y.a) ∧ W2.cell? ⟨wr.heap.size, 1, none⟩ = some (.string y.b) ∧ W2.cell? ⟨wr.heap.size, 2, none⟩ = some (.string y.c) := by
          have h6 := box6p wr y 47
          rw [← hY]
          exact ⟨h6.1, h6.2.1, h6.2.2.1⟩
        obtain ⟨b0, b1, b2⟩ := hbx
        have HO2 := hid (OwnG.below HO.out hb2)
        have HW2 := hid (g_trans HW.out hb2)
        have hz := HW2.out.size
        clear hY hb2
        go_wp2_with (at_builtin; refine wp_appG _ _ rfl rfl w1.heap.size _ [] W2.heap.size 1 (glT y) rfl rfl (OwnG.below HO2.out (g_alloc g_refl _)) (new_cellsG W2 (glT y) _) (by omega) (by simp; omega) ?_)
        intro v5 w5 hown5 hg5 hd5
        have hw5 : Below w1.heap.size w1 w5 := (g_alloc HW2.out _).grown hg5 (g_alloc HW2.out _).size fun g hg => (OwnG.lt HO2.out g hg).1
        clear hd5 hg5 b0 b1 b2
        go_wp2
        go_roundw
        case rel => exact ⟨k + 1, by omega, by go_num, by rw [HX.out, addG_nil]; exact hown5, hw5⟩
        case measure => simp [intOf]; omega
      · by_cases hL0 : L.length = 0
        · have hl := List.eq_nil_of_length_eq_zero hL0
          subst hl
          simp only [List.length_nil] at HO
          clear hown hw hLi hst hx hL hgl hgs hcl hRL hL0 hcap
          go_wp2_with fail
          go_quiet (fail)
          generalize hY : (wr.alloc (.cells #[.string y.a, .string y.b, .string y.c, .string y.d, .string y.e, .string y.f] 47 (0, 0))).drewN nq = W2 at *
          have hb2 : Below wr.heap.size wr W2 := by rw [← hY]; exact g_drewN (g_alloc g_refl _) nq
          have hbx : W2.cell? ⟨wr.heap.size, 0, none⟩ = some (.string y.a) ∧ W2.cell? ⟨wr.heap.size, 1, none⟩ = some (.string y.b) ∧ W2.cell? ⟨wr.heap.size, 2, none⟩ = some (.string y.c) := by
            have h6 := box6p wr y 47
            rw [← hY]
            exact ⟨h6.1, h6.2.1, h6.2.2.1⟩
          obtain ⟨b0, b1, b2⟩ := hbx
          have HO2 := hid (OwnG.below HO.out hb2)
          have HW2 := hid (g_trans HW.out hb2)
          have hz := HW2.out.size
          clear hY hb2
          go_wp2_with (at_builtin; refine wp_appG _ _ rfl rfl w1.heap.size _ [] W2.heap.size 1 (glT y) rfl rfl (OwnG.below HO2.out (g_alloc g_refl _)) (new_cellsG W2 (glT y) _) (by omega) (by simp; omega) ?_)
          intro v5 w5 hown5 hg5 hd5
          have hw5 : Below w1.heap.size w1 w5 := (g_alloc HW2.out _).grown hg5 (g_alloc HW2.out _).size fun g hg => (OwnG.lt HO2.out g hg).1
          clear hd5 hg5 b0 b1 b2
          go_wp2
          go_roundw
          case rel => exact ⟨k + 1, by omega, by go_num, by rw [HX.out, addG_nil]; exact hown5, hw5⟩
          case measure => simp [intOf]; omega
        · obtain ⟨n0, hn0⟩ : ∃ n0, L.length = n0 + 1 := ⟨L.length - 1, by omega⟩
          have hlast : L[L.length - 1]? = some L[n0] := by rw [show L.length - 1 = n0 by omega]; exact List.getElem?_eq_getElem _
          generalize hxl : L[n0] = xl at *
          have x0 : wr.cell? ⟨g, n0 * 3, none⟩ = some (.string xl.a) := by have := hcl n0 (by omega) 0 _ rfl; rw [← hxl]; exact this
          have x1 : wr.cell? ⟨g, n0 * 3 + 1, none⟩ = some (.string xl.b) := by have := hcl n0 (by omega) 1 _ rfl; rw [← hxl]; exact this
          have x2 : wr.cell? ⟨g, n0 * 3 + 2, none⟩ = some (.string xl.c) := by have := hcl n0 (by omega) 2 _ rfl; rw [← hxl]; exact this
          have bel := (bcell (g_alloc (g_refl (a := wr)) (.cells #[.string y.a, .string y.b, .string y.c, .string y.d, .string y.e, .string y.f] 47 (0, 0)))).1
          have y0 := (bel g (n0 * 3) hgs).trans x0
          have y1 := (bel g (n0 * 3 + 1) hgs).trans x1
          have y2 := (bel g (n0 * 3 + 2) hgs).trans x2
          have hnn : ((L.length : Nat) : Int) = (n0 : Int) + 1 := by omega
          have hnz : ((n0 : Int) + 1 == 0) = false := beq_eq_false_iff_ne.2 (by omega)
          obtain ⟨zz, hzz⟩ : ∃ zz, decide (xl = glT y) = zz := ⟨_, rfl⟩
          have hne := run_neqG xl (glT y) zz hzz
          simp only [glT] at hne
          have HZZ := hid hzz
          have HLA := hid hlast
          have HN0 := hid hn0
          clear hown hw hLi hst hx hL hgl hcl hRL hlast hxl x0 x1 x2 bel hzz
          rw [hn0] at HO hcap ⊢
          go_wp2_with fail
          cases zz
          · go_quiet (fail)
            generalize hY : (wr.alloc (.cells #[.string y.a, .string y.b, .string y.c, .string y.d, .string y.e, .string y.f] 47 (0, 0))).drewN nq = W2 at *
            have hb2 : Below wr.heap.size wr W2 := by rw [← hY]; exact g_drewN (g_alloc g_refl _) nq
            have hbx : W2.cell? ⟨wr.heap.size, 0, none⟩ = some (.string y.a) ∧ W2.cell? ⟨wr.heap.size, 1, none⟩ = some (.string y.b) ∧ W2.cell? ⟨wr.heap.size, 2, none⟩ = some (.string y.c) := by
              have h6 := box6p wr y 47
              rw [← hY]
              exact ⟨h6.1, h6.2.1, h6.2.2.1⟩
            obtain ⟨b0, b1, b2⟩ := hbx
            have HO2 := hid (OwnG.below HO.out hb2)
            have HW2 := hid (g_trans HW.out hb2)
            have hz := HW2.out.size
            clear hY hb2
            go_wp2_with (at_builtin; refine wp_appG _ _ rfl rfl w1.heap.size _ L W2.heap.size 1 (glT y) rfl rfl (OwnG.below HO2.out (g_alloc g_refl _)) (new_cellsG W2 (glT y) _) (by omega) (by simp; omega) ?_)
            intro v5 w5 hown5 hg5 hd5
            have hw5 : Below w1.heap.size w1 w5 := (g_alloc HW2.out _).grown hg5 (g_alloc HW2.out _).size fun g hg => (OwnG.lt HO2.out g hg).1
            clear hd5 hg5 b0 b1 b2
            go_wp2
            go_roundw
            case rel => exact ⟨k + 1, by omega, by go_num, by rw [HX.out, addG_new HLA.out (of_decide_eq_false HZZ.out)]; exact hown5, hw5⟩
            case measure => simp [intOf]; omega
          · go_quiet (fail)
            generalize hY : (wr.alloc (.cells #[.string y.a, .string y.b, .string y.c, .string y.d, .string y.e, .string y.f] 47 (0, 0))).drewN nq = W2 at *
            have hb2 : Below wr.heap.size wr W2 := by rw [← hY]; exact g_drewN (g_alloc g_refl _) nq
            have HO2 := hid (OwnG.below HO.out hb2)
            have HW2 := hid (g_trans HW.out hb2)
            clear hY hb2
            go_wp2
            go_roundw
            case rel => exact ⟨k + 1, by omega, by go_num, by rw [HX.out, addG_same (by rw [HLA.out, of_decide_eq_true HZZ.out])]; exact HO2.out, HW2.out⟩
            case measure => simp [intOf]; omega
    · rw [List.take_of_length_le (by omega)] at hown
      clear HO
      generalize gls l = L at *
      rcases formG hown with ⟨rfl, hl⟩ | ⟨g, cap, rfl, hcap, hgs, hcl, hRL⟩
      · subst hl
        clear hown hw
        go_wp2_with fail
        refine (clipG_nil 0 _).mono ?_
        rintro r w' ⟨rfl, rfl⟩
        go_wp2
        go_ret
        have h := HQ.out
        subst h
        exact ⟨none, rfl, RowG.nil _ _, g_trans (g_trans HA.out HB1.out) HW.out⟩
      · have HRL := hid hRL
        clear hRL hown hw hgs hcl
        go_wp2_with fail
        refine (clipG_some g 0 L.length cap _ hcap).mono ?_
        rintro r w' ⟨rfl, rfl⟩
        go_wp2
        go_ret
        have h := HQ.out
        subst h
        exact ⟨_, rfl, HRL.out, g_trans (g_trans HA.out HB1.out) HW.out⟩
end Go.Proofs.Ytfgjeflhhfjgeaa.DT
