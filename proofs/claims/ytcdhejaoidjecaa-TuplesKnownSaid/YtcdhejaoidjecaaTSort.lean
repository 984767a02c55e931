/-
  THE CONTRACTS of slices.Clone at tuples and of tuples.Sorted.
-/
import Derived.Test.YtcdhejaoidjecaaTCpt
import Derived.Test.YtcdhejaoidjecaaShelf2
namespace Go.Proofs.Ytcdhejaoidjecaa
open Go.RowKit Go.Sort

attribute [local go_sem] Lib.run_eql_slice_nil
theorem own_empty (w : World) : Own (w.alloc (.cells #[] 30)) w.heap.size (.slice (some ⟨w.heap.size, 0, none⟩) 0 0) [] :=
  ⟨rfl, .inr ⟨w.heap.size, 0, #[], rfl, Nat.le_refl _, heap_alloc_new w _, Nat.le_refl _, by decide, rfl, rfl⟩⟩

set_option maxHeartbeats 1000000 in
theorem tclone (b o : Nat) (l : List Tup) (c : Nat) (w : World) (hR : Row w (some ⟨b, o, none⟩) l) (hn : l.length ≤ 9000) :
    Calls Try.prog 68 #[.slice (some ⟨b, o, none⟩) l.length c] w (Gives w l) := by
  go_enter Try.func68, Try.ntmps68
  go_wp2_with (at_builtin; refine wp_apps _ _ rfl rfl w.heap.size _ [] (some ⟨b, o, none⟩) l c rfl rfl (own_empty w) (hR.gw (gw_alloc gw_refl _)) (by simp; omega) (by simp) ?_)
  intro v1 w1 hown1 hg1 hd1
  have hW1 : Grew w w1 := gw_grown (gw_alloc gw_refl _) hg1 hd1 (fun k h => by simp [Value.ownBlock] at h; omega)
  go_wp2
  go_ret
  exact ⟨_, rfl, hown1, hW1⟩
set_option maxHeartbeats 400000 in
theorem tclone_nil (w : World) :
    Calls Try.prog 68 #[.slice none 0 0] w fun e w' => e = .returned (.slice none 0 0) ∧ w = w' := by
  go_enter Try.func68, Try.ntmps68
  go_wp2
  go_ret
  exact ⟨rfl, rfl⟩

theorem ltOf_cmp (x y : Tup) : ltOf cmpT x y = decide (cmpT x y < 0) := rfl
theorem swo : SWO (ltOf cmpT) where
  irrefl x := by rw [ltOf_cmp, tot.self]; rfl
  trans x y z h k := by
    rw [ltOf_cmp] at *
    exact decide_eq_true (tot.lt_trans (of_decide_eq_true h) (of_decide_eq_true k))
  ntrans x y z h k := by
    rw [ltOf_cmp] at *
    have h1 := of_decide_eq_false h
    have k1 := of_decide_eq_false k
    have := tot.trans z y x (by have := tot.anti y z; omega) (by have := tot.anti x y; omega)
    have := tot.anti x z
    exact decide_eq_false (by omega)
theorem parts (x y : Tup) (h : ltOf cmpT x y = false) (k : ltOf cmpT y x = false) : x = y := by
  rw [ltOf_cmp] at *
  have h1 := of_decide_eq_false h
  have k1 := of_decide_eq_false k
  have := tot.anti x y
  exact tot.zero x y (by omega)
theorem lays (blk off size : Nat) (w : World) : CmpLays Try.prog 7 #[] enc 6 cmpT blk off size w :=
  fun _ _ _ _ x y => (tcmp x y _).mono fun _ _ h => ⟨h.1, h.2.out⟩
/-- the list in its order, doubles and all -/
def mst (l : List Tup) : List Tup := l.mergeSort fun x y => !ltOf cmpT y x
theorem mst_len (l : List Tup) : (mst l).length = l.length := List.length_mergeSort l
theorem mst_le (l : List Tup) : (mst l).Pairwise fun x y => cmpT x y ≤ 0 := by
  have h := List.pairwise_mergeSort (le := fun x y => !ltOf cmpT y x)
    (fun x y z h k => by
      rw [ltOf_cmp] at *
      simp only [Bool.not_eq_true', decide_eq_false_iff_not] at *
      have := tot.trans x y z (by have := tot.anti y x; omega) (by have := tot.anti z y; omega)
      have := tot.anti x z
      omega)
    (fun x y => by
      rw [ltOf_cmp, ltOf_cmp]
      have := tot.anti x y
      by_cases h : cmpT y x < 0
      · have h2 : ¬ cmpT x y < 0 := by omega
        simp [h, h2]
      · simp [h]) l
  refine h.imp fun {x y} h => ?_
  rw [ltOf_cmp] at h
  simp only [Bool.not_eq_true', decide_eq_false_iff_not] at h
  have := tot.anti x y
  omega
theorem cpt_mst (l : List Tup) : cpt (mst l) = srt cmpT l :=
  srt_of tot (asc_cpt tot _ (mst_le l)) fun t => by rw [mem_cpt]; exact List.mem_mergeSort

set_option maxHeartbeats 1000000 in
theorem tsort (g cap : Nat) (l : List Tup) (w : World) (h : Cel w g cap l) (hn : l.length ≤ 9000) :
    Calls Try.prog 69 #[.slice (some ⟨g, 0, none⟩) l.length cap, .func (.func 7) #[] #[]] w fun e w' => e = .returned (.tuple #[]) ∧ Cel w' g cap (mst l) ∧ Touch w w' g := by
  have eg : ∀ args w, (callFunc 7 args).run Try.prog w = .ok (.enter 7 args) w := enters_of Try.func7 (by kernel_rfl) rfl
  have q := AnyQ.slices_SortFunc_total Try.sortT 6 Try.isAgg30 Try.sizeOf30 enc enc_len enc_one cmpT swo 7 #[] g 0 cap l.toArray w eg (lays g 0 _ w) h.holds h.lt (by simp; omega) parts
  rw [List.size_toArray] at q
  refine q.mono fun e w' ⟨he, n, os, hw⟩ => ⟨he, ?_⟩
  rw [hw]
  exact h.sorted (mst_len l) n os

set_option maxHeartbeats 400000 in
theorem tcompact_short (A : Option Addr) (n c : Nat) (w : World) (hn : n < 2) :
    Calls Try.prog 70 #[.slice A n c] w fun e w' => e = .returned (.slice A n c) ∧ w = w' := by
  go_enter Try.func70, Try.ntmps70
  go_wp2
  go_ret
  exact ⟨rfl, rfl⟩

/-- what a call leaves that returns a list with nothing to spare -/
def Lists (w : World) (L : List Tup) (e : Ending) (w' : World) : Prop := ∃ A, e = .returned (.slice A L.length L.length) ∧ Row w' A L ∧ Grew w w' ∧ (A = none ∨ ∃ g, A = some ⟨g, 0, none⟩) ∧ (A = none → L.length = 0)
theorem gw_touch {a b c : World} {g : Nat} (h : Grew a b) (k : Touch b c g) (hg : a.heap.size ≤ g) : Grew a c := gw_grown h k.togrownBy k.drawn fun j hj => by injection hj with e; omega
theorem tsort0 (A : Option Addr) (c : Nat) (w : World) :
    Calls Try.prog 69 #[.slice A 0 c, .func (.func 7) #[] #[]] w fun e w' => e = .returned (.tuple #[]) ∧ w = w' :=
  (AnyF.slices_SortFunc_none Try.sortT A c (.func (.func 7) #[] #[]) w).mono fun _ _ h => ⟨h.1, h.2.symm⟩
theorem tclone_e (A : Option Addr) (c : Nat) (w : World) (hA : (A = none ∧ c = 0) ∨ ∃ b o, A = some ⟨b, o, none⟩) :
    Calls Try.prog 68 #[.slice A 0 c] w (Gives w []) := by
  rcases hA with ⟨rfl, rfl⟩ | ⟨b, o, rfl⟩
  · exact (tclone_nil w).mono fun e w' ⟨he, hw⟩ => ⟨_, he, Own.nil _ _, by rw [← hw]; exact gw_refl⟩
  · exact tclone b o [] c w (Row.nil _ _) (by simp)

set_option maxHeartbeats 1000000 in
theorem tsorted_e (A : Option Addr) (c : Nat) (w : World) (hA : (A = none ∧ c = 0) ∨ ∃ b o, A = some ⟨b, o, none⟩) :
    Calls Try.prog 39 #[.slice A 0 c] w (Lists w []) := by
  go_enter Try.func39, Try.ntmps39
  go_wp2_with fail
  refine (tclone_e A c _ hA).mono ?_
  rintro e w1 ⟨v1, rfl, hown1, hW1⟩
  have hf : ∃ A1 c1, v1 = .slice A1 0 c1 ∧ (A1 = none ∨ ∃ g, A1 = some ⟨g, 0, none⟩) ∧ (A1 = none → c1 = 0) := by
    rcases hown1.2 with ⟨rfl, _⟩ | ⟨g, cap, cur, rfl, _⟩
    · exact ⟨none, 0, rfl, .inl rfl, fun _ => rfl⟩
    · exact ⟨_, cap, rfl, .inr ⟨g, rfl⟩, fun h => by cases h⟩
  obtain ⟨A1, c1, rfl, hA1, hc1⟩ := hf
  clear hown1 hA
  go_wp2_with fail
  refine (tsort0 A1 c1 _).mono ?_
  rintro e w' ⟨rfl, rfl⟩
  go_wp2_with fail
  refine (tcompact_short A1 0 c1 _ (by omega)).mono ?_
  rintro e w' ⟨rfl, rfl⟩
  go_wp2_with fail
  refine (tcut A1 0 c1 _ (by omega)).mono ?_
  rintro e w' ⟨rfl, rfl⟩
  go_wp2
  go_ret
  exact ⟨A1, rfl, Row.nil _ _, hW1, hA1, fun _ => rfl⟩

set_option maxHeartbeats 1000000 in
theorem tsorted (A : Option Addr) (l : List Tup) (c : Nat) (w : World) (hR : Row w A l) (hA : (A = none ∧ c = 0) ∨ ∃ b o, A = some ⟨b, o, none⟩) (hn : l.length ≤ 9000) :
    Calls Try.prog 39 #[.slice A l.length c] w (Lists w (srt cmpT l)) := by
  by_cases hl : l = []
  · subst hl
    exact tsorted_e A c w hA
  · obtain ⟨b, o, rfl, -⟩ := hR hl
    have HS := hid (cpt_mst l)
    have HM := hid (mst_len l)
    clear hA
    go_enter Try.func39, Try.ntmps39
    go_wp2_with fail
    refine (tclone b o l c _ hR hn).mono ?_
    rintro e w1 ⟨v1, rfl, hown1, hW1⟩
    obtain ⟨A1, c1, rfl, -, -, hcm⟩ := hown1.row
    obtain ⟨g, rfl, hg, hC⟩ := cel_of_own hl hown1
    clear hown1 hR
    go_wp2_with fail
    refine (tsort g c1 l _ hC hn).mono ?_
    rintro e w2 ⟨rfl, hC2, hT2⟩
    have hW2 := gw_touch hW1 hT2 hg
    have hown2 := own_of_cel hg hC2
    rw [HM.out] at hown2
    have hown3 : Own w2 w.heap.size (.slice (some ⟨g, 0, none⟩) (mst l).length c1) (mst l) := by rw [HM.out]; exact hown2
    clear hown2 hC hT2 hW1 hC2
    go_wp2_with fail
    have hk := tcompact w.heap.size (some ⟨g, 0, none⟩) c1 (mst l) w2 hown3 (by rw [HM.out]; exact hn)
    rw [HM.out] at hk
    refine hk.mono ?_
    rintro e w3 ⟨rfl, hown4, ⟨row, hgr, hrow⟩, hd⟩
    have hW3 : Grew w w3 := gw_grown hW2 hgr hd hrow
    clear hk hown3 hgr hrow hd hW2
    rw [HS.out] at hown4 ⊢
    obtain ⟨A4, c4, e4, hR4, hc4, -⟩ := hown4.row
    injection e4 with e5 _ e6
    subst e5; subst e6
    have HP : Hid ((srt cmpT l).length ≤ c1) := hc4
    clear hown4 hc4
    generalize srt cmpT l = L at *
    go_wp2_with fail
    refine (tcut (some ⟨g, 0, none⟩) L.length c1 _ HP.out).mono ?_
    rintro e w' ⟨rfl, rfl⟩
    go_wp2
    go_ret
    exact ⟨_, rfl, hR4, hW3, .inr ⟨g, rfl⟩, fun h => by cases h⟩

end Go.Proofs.Ytcdhejaoidjecaa
