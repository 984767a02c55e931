/-
  THE CONTRACTS of the reference's Is and Sorted.
-/
import Derived.Test.YtgfgfggoofjeeaaGreatTOwn
import Derived.Deep.Onto
namespace Go.Proofs.YtgfgfggoofjeeaaGreat
open Go.RowKit Go.Sort

/-- the call returns a list of its own -/
def Gives (w : World) (L : List Tup) (e : Ending) (w' : World) : Prop := ∃ v, e = .returned v ∧ Own w' w.heap.size v L ∧ Grew w w'
theorem Own.mono {w : World} {base base' : Nat} {v : Value} {l : List Tup} (h : Own w base v l) (hb : base' ≤ base) : Own w base' v l := World.ownsRow.mono h hb

/-- 1 if a list ascends -/
def isI (l : List Tup) : Int := if isB cmpT l = true then 1 else 0
/-- all pairs below a place ascend -/
def PW (l : List Tup) (k : Nat) : Prop := ∀ i j, (hi : i < l.length) → (hj : j < i) → i < k → cmpT (l[j]'(by omega)) l[i] < 0
/-- all those ahead of a place, below another one, are less -/
def PR (l : List Tup) (i k : Nat) (hi : i < l.length) : Prop := ∀ j, (hj : j < i) → j < k → cmpT (l[j]'(by omega)) l[i] < 0
theorem PW.zero (l : List Tup) : PW l 0 := fun _ _ _ _ h => absurd h (by omega)
theorem PW.step {l : List Tup} {k : Nat} (hk : k < l.length) (h : PW l k) (r : PR l k k hk) : PW l (k + 1) := fun i j hi hj hik => by
  by_cases e : i = k
  · subst e; exact r j hj hj
  · exact h i j hi hj (by omega)
theorem PW.all {l : List Tup} {k : Nat} (hk : ¬ k < l.length) (h : PW l k) : isI l = 1 := by
  unfold isI; rw [if_pos (isB_all tot fun i j hi hj => h i j hi hj (by omega))]
theorem PR.zero (l : List Tup) (i : Nat) (hi : i < l.length) : PR l i 0 hi := fun _ _ h => absurd h (by omega)
theorem PR.step {l : List Tup} {i k : Nat} (hi : i < l.length) (hk : k < i) (h : PR l i k hi) {v : Int} (hv : cmpT (l[k]'(by omega)) l[i] = v) (hs : v < 0) : PR l i (k + 1) hi := fun j hj hjk => by
  by_cases e : j = k
  · subst e; rw [hv]; exact hs
  · exact h j hj (by omega)
theorem isI_no {l : List Tup} {i k : Nat} (hi : i < l.length) (hk : k < i) {v : Int} (hv : cmpT (l[k]'(by omega)) l[i] = v) (hs : ¬ v < 0) : isI l = 0 := by
  unfold isI; rw [isB_false tot hi hk (by rw [hv]; exact hs)]; rfl


/-- what the inner loop of Sorted keeps -/
def SI (x : Tup) (out nxt : List Tup) (b : Bool) (k : Nat) : Prop :=
  (if b = true then nxt ++ out.drop k else nxt ++ ins cmpT x (out.drop k)) = ins cmpT x out ∧ nxt.length ≤ k + 1
theorem SI.zero (x : Tup) (out : List Tup) : SI x out [] false 0 := ⟨by simp, by simp⟩
theorem drop_cons {α : Type} {l : List α} {k : Nat} (h : k < l.length) : l.drop k = l[k] :: l.drop (k + 1) := List.drop_eq_getElem_cons h
theorem SI.put_ {x : Tup} {out nxt m : List Tup} {k : Nat} (hk : k < out.length) (h : SI x out nxt false k) {v : Int} (hv : cmpT x out[k] = v) (hs : v < 0) (hl : nxt.length ≤ k) (hm : m = nxt ++ [x, out[k]]) : SI x out m true (k + 1) := by
  subst hm
  have h1 := h.1
  rw [if_neg (by decide), drop_cons hk, ins, if_pos (by rw [hv]; exact hs)] at h1
  refine ⟨?_, by simp; omega⟩
  rw [if_pos rfl, ← h1]; simp
theorem SI.on_ {x : Tup} {out nxt : List Tup} {k : Nat} (hk : k < out.length) (h : SI x out nxt false k) {v : Int} (hv : cmpT x out[k] = v) (hs : ¬ v < 0) : SI x out (nxt ++ [out[k]]) false (k + 1) := by
  have h1 := h.1
  rw [if_neg (by decide), drop_cons hk, ins, if_neg (by rw [hv]; exact hs)] at h1
  refine ⟨?_, by simp; exact h.2⟩
  rw [if_neg (by decide), ← h1]; simp
theorem SI.more {x : Tup} {out nxt : List Tup} {k : Nat} (hk : k < out.length) (h : SI x out nxt true k) : SI x out (nxt ++ [out[k]]) true (k + 1) := by
  have h1 := h.1
  rw [if_pos rfl, drop_cons hk] at h1
  refine ⟨?_, by simp; exact h.2⟩
  rw [if_pos rfl, ← h1]; simp
theorem SI.len {x : Tup} {out nxt : List Tup} {k : Nat} (hk : k ≤ out.length) (h : SI x out nxt false k) : nxt.length ≤ k := by
  have h1 := congrArg List.length h.1
  rw [if_neg (by decide), List.length_append, length_ins, length_ins, List.length_drop] at h1
  omega
theorem SI.last {x : Tup} {out nxt : List Tup} {k : Nat} (hk : ¬ k < out.length) (h : SI x out nxt false k) : nxt ++ [x] = ins cmpT x out := by
  have h1 := h.1
  rw [if_neg (by decide), List.drop_eq_nil_of_le (by omega)] at h1
  exact h1
theorem SI.done {x : Tup} {out nxt : List Tup} {k : Nat} (hk : ¬ k < out.length) (h : SI x out nxt true k) : nxt = ins cmpT x out := by
  have h1 := h.1
  rw [if_pos rfl, List.drop_eq_nil_of_le (by omega), List.append_nil] at h1
  exact h1
/-- the list of the first k -/
def fol (l : List Tup) (k : Nat) : List Tup := (l.take k).foldl (put1 cmpT) []
theorem fol_in {l : List Tup} {k : Nat} (hk : k < l.length) (h : l[k] ∈ fol l k) : fol l (k + 1) = fol l k := by
  unfold fol at *
  rw [List.take_succ_eq_append_getElem hk, List.foldl_append]
  show put1 cmpT (List.foldl (put1 cmpT) [] (l.take k)) l[k] = _
  generalize List.foldl (put1 cmpT) [] (l.take k) = z at *
  unfold put1; rw [if_pos h]
theorem fol_out {l : List Tup} {k : Nat} (hk : k < l.length) (h : l[k] ∉ fol l k) : fol l (k + 1) = ins cmpT l[k] (fol l k) := by
  unfold fol at *
  rw [List.take_succ_eq_append_getElem hk, List.foldl_append]
  show put1 cmpT (List.foldl (put1 cmpT) [] (l.take k)) l[k] = _
  generalize List.foldl (put1 cmpT) [] (l.take k) = z at *
  unfold put1; rw [if_neg h]
theorem fol_end {l : List Tup} {k : Nat} (hk : ¬ k < l.length) : fol l k = srt cmpT l := by unfold fol srt; rw [List.take_of_length_le (by omega)]
theorem fol_len (l : List Tup) (k : Nat) (hk : k ≤ l.length) : (fol l k).length ≤ k := by
  have := length_foldl_put1 (cmp := cmpT) (l.take k) []
  unfold fol
  rw [List.length_take, List.length_nil] at this
  omega
theorem fol_mem {l : List Tup} {k : Nat} : ∀ x ∈ fol l k, x ∈ l := fun x hx => by
  have := ((foldl_put1 tot (l.take k) [] List.Pairwise.nil).2 x).1 hx
  rcases this with h | h
  · exact List.mem_of_mem_take h
  · cases h
theorem rin_v (A : Option Addr) (l : List Tup) (c : Nat) (x : Tup) (v : Int) (w : World) (hR : Row w A l) (hn : l.length ≤ 10000) (hv : inI x l = v) :
    Calls Tryz.prog 19 #[.slice A l.length c, val x] w fun e w' => e = .returned (.int .i64 v) ∧ Grew w w' := by
  have q := rin A l c x w hR hn; rw [hv] at q; exact q
theorem Six.at0 {w : World} {b o : Nat} {x : Tup} (h : Six w b o x) : w.cell? ⟨b, o, none⟩ = some (.string x.a) ∧ w.cell? ⟨b, o + 1, none⟩ = some (.string x.b) ∧ w.cell? ⟨b, o + 2, none⟩ = some (.string x.c) ∧ w.cell? ⟨b, o + 3, none⟩ = some (.string x.d) ∧ w.cell? ⟨b, o + 4, none⟩ = some (.string x.e) ∧ w.cell? ⟨b, o + 5, none⟩ = some (.string x.f) := by
  have e : grow (w.drewN 0) #[] = w := by rw [grow_empty]; rfl
  obtain ⟨h0, h1, h2, h3, h4, h5⟩ := h
  exact ⟨e ▸ h0 0 #[], e ▸ h1 0 #[], e ▸ h2 0 #[], e ▸ h3 0 #[], e ▸ h4 0 #[], e ▸ h5 0 #[]⟩

set_option maxRecDepth 100000 in
set_option maxHeartbeats 4000000 in
theorem rsorted (A : Option Addr) (l : List Tup) (c : Nat) (w : World) (hR : Row w A l) (hF : ∀ x ∈ l, Fits x) (hn : l.length ≤ 9000) :
    Calls Tryz.prog 25 #[.slice A l.length c] w (Gives w (srt cmpT l)) := by
  have hmx := mixed
  have HF := hid hF; clear hF
  go_enter Tryz.func25, Tryz.ntmps25
  go_wp2
  go_loopw [3, 4] (fun v i wr => ∃ k : Nat, k ≤ l.length ∧ i = .int .i64 k ∧ Own wr w.heap.size v (fol l k) ∧ Grew w wr) (fun _ i _ => l.length - (intOf i).toNat)
  case atStart => exact ⟨0, Nat.zero_le _, rfl, Own.nil _ _, gw_refl⟩
  case round =>
    obtain ⟨k, hk, rfl, hown, hw⟩ := hrel
    by_cases hlt : k < l.length
    · obtain ⟨B, c2, rfl, hRo, -, -⟩ := hown.row
      have hfl := fol_len l k hk
      obtain ⟨b, o, rfl, hL⟩ := (hR.gw hw).at_ hlt
      obtain ⟨q0, q1, q2, q3, q4, q5⟩ := (hL.six hlt).at0
      by_cases hm : l[k] ∈ fol l k
      · have HI : Hid (inI l[k] (fol l k) = 1) := by unfold inI; rw [if_pos hm]; rfl
        have HM := hid hm; clear hm
        have HO := hid (fol_in hlt HM.out)
        generalize hg : fol l k = out at *
        clear hg hL
        go_wp2_with fail
        refine (rin_v B out c2 l[k] 1 _ hRo (by omega) HI.out).mono ?_
        rintro e w1 ⟨rfl, hw1⟩
        go_wp2
        go_roundw
        case rel => exact ⟨k + 1, by omega, by go_num, by rw [HO.out]; exact hown.gw hw1, gw_trans hw hw1⟩
        case measure => simp [intOf]; omega
      · have HI : Hid (inI l[k] (fol l k) = 0) := by unfold inI; rw [if_neg hm]; rfl
        have HO := hid (fol_out hlt hm)
        have HFO : Hid (∀ x ∈ fol l k, Fits x) := fun x hx => HF.out x (fol_mem x hx)
        have HFK := hid (HF.out _ (List.getElem_mem hlt))
        clear hm
        generalize hg : fol l k = out at *
        clear hg
        go_wp2_with fail
        refine (rin_v B out c2 l[k] 0 _ hRo (by omega) HI.out).mono ?_
        rintro e w1 ⟨rfl, hw1⟩
        have hR1 : Row w1 B out := hRo.gw hw1
        have hL1 : Lies w1 b o l := hL.below hw1.toBelow
        have hW1 := gw_trans hw hw1
        clear hL hRo hown q0 q1 q2 q3 q4 q5 HI
        go_wp2
        go_loopw [5, 6, 7] (fun v2 b2 i2 wq => ∃ (nxt : List Tup) (p : Bool) (j : Nat), j ≤ out.length ∧ b2 = .bool p ∧ i2 = .int .i64 j ∧ Own wq w1.heap.size v2 nxt ∧ SI l[k] out nxt p j ∧ Grew w1 wq) (fun _ _ i2 _ => out.length - (intOf i2).toNat)
        case atStart => exact ⟨[], false, 0, Nat.zero_le _, rfl, rfl, Own.nil _ _, SI.zero _ _, gw_refl⟩
        case round =>
          obtain ⟨nxt, p, j, hj, rfl, rfl, hown2, hsi, hw2⟩ := hrel
          have HSI := hid hsi; clear hsi
          obtain ⟨q0, q1, q2, q3, q4, q5⟩ := ((hL1.below hw2.toBelow).six hlt)
          by_cases hjo : j < out.length
          · obtain ⟨b3, o3, rfl, hM⟩ := (hR1.gw hw2).at_ hjo
            obtain ⟨p0, p1, p2, p3, p4, p5⟩ := hM.six hjo
            have HFJ := hid (HFO.out _ (List.getElem_mem hjo))
            have hnl : nxt.length ≤ j + 1 := HSI.out.2
            cases p
            · obtain ⟨v, hv⟩ : ∃ v, cmpT l[k] out[j] = v := ⟨_, rfl⟩
              have HV := hid hv; clear hv
              have hR1' := hid hR1
              by_cases hs : v < 0
              · have HLN := HSI.out.len hj
                go_wp2_with fail
                go_quiet_grown (first | (go_at_call 52; exact rtcmp_q l[k] out[j] v HV.out HFK.out HFJ.out _ _ _))
                have hw3 : Grew w1 (grow (wr.drewN nq) osq) := gw_grow (gw_drewN hw2 _) _
                have hown3 : Own (grow (wr.drewN nq) osq) w1.heap.size _ nxt := hown2.gw (Grew.of_grow _ _ _)
                have hzz := hw3.size
                clear p0 p1 p2 p3 p4 p5 q0 q1 q2 q3 q4 q5 hown2 hw2 hM
                simp only []
                generalize grow (wr.drewN nq) osq = w3 at *
                obtain ⟨q0, q1, q2, q3, q4, q5⟩ := ((hL1.below hw3.toBelow).six hlt).at0
                go_wp2_with (at_builtin; refine wp_app _ _ rfl rfl w1.heap.size _ nxt w3.heap.size 1 l[k] rfl rfl (hown3.gw (gw_alloc gw_refl _)) (new_cells w3 l[k] _) (by simp; omega) (by simp; omega) ?_)
                intro v4 w4 hown4 hg4 hd4
                have hw4 : Grew w1 w4 := gw_grown (gw_alloc hw3 _) hg4 hd4 fun g hg => (hown3.lt g hg).1
                have hz4 := hw4.size
                clear q0 q1 q2 q3 q4 q5 hown3 hg4 hd4 hw3 hzz
                obtain ⟨b5, o5, e5, hM⟩ := (hR1'.out.gw hw4).at_ hjo
                obtain ⟨rfl, rfl⟩ : b3 = b5 ∧ o3 = o5 := by simpa using e5
                obtain ⟨p0, p1, p2, p3, p4, p5⟩ := (hM.six hjo).at0
                go_wp2_with (at_builtin; refine wp_app _ _ rfl rfl w1.heap.size _ (nxt ++ [l[k]]) w4.heap.size 1 out[j] rfl rfl (hown4.gw (gw_alloc gw_refl _)) (new_cells w4 out[j] _) (by simp; omega) (by simp; omega) ?_)
                intro v5 w5 hown5 hg5 hd5
                have hw5 : Grew w1 w5 := gw_grown (gw_alloc hw4 _) hg5 hd5 fun g hg => (hown4.lt g hg).1
                clear p0 p1 p2 p3 p4 p5 hown4 hg5 hd5 hw4 hM
                go_wp2
                go_roundw
                case rel => exact ⟨_, true, j + 1, by omega, rfl, by go_num, hown5, SI.put_ hjo HSI.out HV.out (by omega) HLN (by simp), hw5⟩
                case measure => simp [intOf]; omega
              · go_wp2_with fail
                go_quiet_grown (first | (go_at_call 52; exact rtcmp_q l[k] out[j] v HV.out HFK.out HFJ.out _ _ _))
                have hw3 : Grew w1 (grow (wr.drewN nq) osq) := gw_grow (gw_drewN hw2 _) _
                have hown3 : Own (grow (wr.drewN nq) osq) w1.heap.size _ nxt := hown2.gw (Grew.of_grow _ _ _)
                have hzz := hw3.size
                clear p0 p1 p2 p3 p4 p5 q0 q1 q2 q3 q4 q5 hown2 hw2 hM
                simp only []
                generalize grow (wr.drewN nq) osq = w3 at *
                obtain ⟨b5, o5, e5, hM⟩ := (hR1'.out.gw hw3).at_ hjo
                obtain ⟨rfl, rfl⟩ : b3 = b5 ∧ o3 = o5 := by simpa using e5
                obtain ⟨p0, p1, p2, p3, p4, p5⟩ := (hM.six hjo).at0
                go_wp2_with (at_builtin; refine wp_app _ _ rfl rfl w1.heap.size _ nxt w3.heap.size 1 out[j] rfl rfl (hown3.gw (gw_alloc gw_refl _)) (new_cells w3 out[j] _) (by simp; omega) (by simp; omega) ?_)
                intro v5 w5 hown5 hg5 hd5
                have hw5 : Grew w1 w5 := gw_grown (gw_alloc hw3 _) hg5 hd5 fun g hg => (hown3.lt g hg).1
                clear p0 p1 p2 p3 p4 p5 hown3 hg5 hd5 hw3 hM
                go_wp2
                go_roundw
                case rel => exact ⟨_, false, j + 1, by omega, rfl, by go_num, hown5, SI.on_ hjo HSI.out HV.out (by omega), hw5⟩
                case measure => simp [intOf]; omega
            · have hR1' := hid hR1
              clear p0 p1 p2 p3 p4 p5 q0 q1 q2 q3 q4 q5 hM
              go_wp2_with fail
              go_quiet (fail)
              have hw3 : Grew w1 (wr.drewN nq) := gw_drewN hw2 _
              have hown3 : Own (wr.drewN nq) w1.heap.size _ nxt := hown2.gw (gw_drewN gw_refl _)
              have hzz := hw3.size
              clear hown2 hw2
              generalize wr.drewN nq = w3 at *
              obtain ⟨b5, o5, e5, hM⟩ := (hR1'.out.gw hw3).at_ hjo
              obtain ⟨rfl, rfl⟩ : b3 = b5 ∧ o3 = o5 := by simpa using e5
              obtain ⟨p0, p1, p2, p3, p4, p5⟩ := (hM.six hjo).at0
              go_wp2_with (at_builtin; refine wp_app _ _ rfl rfl w1.heap.size _ nxt w3.heap.size 1 out[j] rfl rfl (hown3.gw (gw_alloc gw_refl _)) (new_cells w3 out[j] _) (by simp; omega) (by simp; omega) ?_)
              intro v5 w5 hown5 hg5 hd5
              have hw5 : Grew w1 w5 := gw_grown (gw_alloc hw3 _) hg5 hd5 fun g hg => (hown3.lt g hg).1
              clear p0 p1 p2 p3 p4 p5 hown3 hg5 hd5 hw3 hM
              go_wp2
              go_roundw
              case rel => exact ⟨_, true, j + 1, by omega, rfl, by go_num, hown5, SI.more hjo HSI.out, hw5⟩
              case measure => simp [intOf]; omega
          · have hnl : nxt.length ≤ j + 1 := HSI.out.2
            have hz2 := hw2.size
            obtain ⟨q0, q1, q2, q3, q4, q5⟩ := ((hL1.below hw2.toBelow).six hlt).at0
            cases p
            · have HN := hid (HSI.out.last hjo)
              go_wp2_with (at_builtin; refine wp_app _ _ rfl rfl w1.heap.size _ nxt wr.heap.size 1 l[k] rfl rfl (hown2.gw (gw_alloc gw_refl _)) (new_cells wr l[k] _) (by simp; omega) (by simp; omega) ?_)
              intro v5 w5 hown5 hg5 hd5
              have hw5 : Grew w1 w5 := gw_grown (gw_alloc hw2 _) hg5 hd5 fun g hg => (hown2.lt g hg).1
              clear q0 q1 q2 q3 q4 q5 hown2 hg5 hd5 hw2
              go_wp2
              go_roundw
              case rel => exact ⟨k + 1, by omega, by go_num, by rw [HO.out, ← HN.out]; exact hown5.mono hW1.size, gw_trans hW1 hw5⟩
              case measure => simp [intOf]; omega
            · have HN := hid (HSI.out.done hjo)
              go_wp2
              go_roundw
              case rel => exact ⟨k + 1, by omega, by go_num, by rw [HO.out, ← HN.out]; exact hown2.mono hW1.size, gw_trans hW1 hw2⟩
              case measure => simp [intOf]; omega
    · go_wp2
      go_ret
      exact ⟨_, rfl, by rw [← fol_end hlt]; exact hown, hw⟩

end Go.Proofs.YtgfgfggoofjeeaaGreat
