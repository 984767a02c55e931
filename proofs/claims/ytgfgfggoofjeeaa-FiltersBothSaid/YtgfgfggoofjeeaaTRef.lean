/-
  THE CONTRACTS of the reference's Is and Sorted.
-/
import Derived.Test.YtgfgfggoofjeeaaTOwn
import Derived.Deep.Onto
namespace Go.Proofs.Ytgfgfggoofjeeaa
open Go.RowKit Go.Sort

/-- the call returns a list of its own -/
def Gives (w : World) (L : List Tup) (e : Ending) (w' : World) : Prop := ∃ v, e = .returned v ∧ Own w' w.heap.size v L ∧ Grew w w'
theorem Own.mono {w : World} {base base' : Nat} {v : Value} {l : List Tup} (h : Own w base v l) (hb : base' ≤ base) : Own w base' v l := World.ownsRow.mono h hb

/-- 1 if a list ascends -/
def isI (l : List Tup) : Int := if isB cmpT l = true then 1 else 0
/-- all pairs below a place ascend -/
def PW (l : List Tup) (k : Nat) : Prop := ∀ i j, (hi : i < l.length) → (hj : j < i) → i < k → cmpT (l[j]'(by omega)) l[i] < 0
/-- all those ahead of a place, below another one, are less -/
def PR (l : List Tup) (i k : Nat) (hi : i < l.length) : Prop := ∀ j, (hj : j < i) → j < k → cmpT (l[j]'(by omega)) l[i] < 0
theorem PW.zero (l : List Tup) : PW l 0 := fun _ _ _ _ h => absurd h (by omega)
theorem PW.step {l : List Tup} {k : Nat} (hk : k < l.length) (h : PW l k) (r : PR l k k hk) : PW l (k + 1) := fun i j hi hj hik => by
  by_cases e : i = k
  · subst e; exact r j hj hj
  · exact h i j hi hj (by omega)
theorem PW.all {l : List Tup} {k : Nat} (hk : ¬ k < l.length) (h : PW l k) : isI l = 1 := by
  unfold isI; rw [if_pos (isB_all tot fun i j hi hj => h i j hi hj (by omega))]
theorem PR.zero (l : List Tup) (i : Nat) (hi : i < l.length) : PR l i 0 hi := fun _ _ h => absurd h (by omega)
theorem PR.step {l : List Tup} {i k : Nat} (hi : i < l.length) (hk : k < i) (h : PR l i k hi) {v : Int} (hv : cmpT (l[k]'(by omega)) l[i] = v) (hs : v < 0) : PR l i (k + 1) hi := fun j hj hjk => by
  by_cases e : j = k
  · subst e; rw [hv]; exact hs
  · exact h j hj (by omega)
theorem isI_no {l : List Tup} {i k : Nat} (hi : i < l.length) (hk : k < i) {v : Int} (hv : cmpT (l[k]'(by omega)) l[i] = v) (hs : ¬ v < 0) : isI l = 0 := by
  unfold isI; rw [isB_false tot hi hk (by rw [hv]; exact hs)]; rfl

set_option maxHeartbeats 1600000 in
theorem ris (A : Option Addr) (l : List Tup) (c : Nat) (w : World) (hR : Row w A l) (hF : ∀ x ∈ l, Fits x) (hn : l.length ≤ maxLen) :
    Calls Try.prog 12 #[.slice A l.length c] w fun e w' => e = .returned (.int .i64 (isI l)) ∧ Grew w w' := by
  have hmx := mixed
  have HF := hid hF; clear hF
  unfold maxLen at hn
  go_enter Try.func12, Try.ntmps12
  go_wp2
  go_loopw [3] (fun i wr => ∃ k : Nat, k ≤ l.length ∧ i = .int .i64 k ∧ PW l k ∧ Grew w wr) (fun i _ => l.length - (intOf i).toNat)
  case atStart => exact ⟨0, Nat.zero_le _, rfl, PW.zero l, gw_refl⟩
  case round =>
    obtain ⟨k, hk, rfl, hx, hw⟩ := hrel
    have HX := hid hx; clear hx
    by_cases hlt : k < l.length
    · go_wp2
      go_loopw [4] (fun i wq => ∃ j : Nat, j ≤ k ∧ i = .int .i64 j ∧ PR l k j hlt ∧ Grew w wq) (fun i _ => k - (intOf i).toNat)
      case atStart => exact ⟨0, Nat.zero_le _, rfl, PR.zero l k hlt, hw⟩
      case round =>
        obtain ⟨j, hj, rfl, hy, hw2⟩ := hrel
        have HY := hid hy; clear hy
        by_cases hjk : j < k
        · have hjl : j < l.length := by omega
          obtain ⟨b, o, rfl, hL⟩ := (hR.gw hw2).at_ hlt
          obtain ⟨p0, p1, p2, p3, p4, p5⟩ := hL.six hjl
          obtain ⟨q0, q1, q2, q3, q4, q5⟩ := hL.six hlt
          have HFJ := hid (HF.out _ (List.getElem_mem hjl))
          have HFK := hid (HF.out _ (List.getElem_mem hlt))
          clear hR hL
          obtain ⟨v, hv⟩ : ∃ v, cmpT l[j] l[k] = v := ⟨_, rfl⟩
          have HV := hid hv; clear hv
          by_cases hs : v < 0
          · have hs2 : decide (0 ≤ v) = false := decide_eq_false (by omega)
            go_wp2_with fail
            go_quiet_grown (first | (go_at_call 43; exact rtcmp_q l[j] l[k] v HV.out HFJ.out HFK.out _ _ _))
            go_wp2
            go_roundw
            case rel => exact ⟨j + 1, by omega, by go_num, PR.step hlt hjk HY.out HV.out (by omega), gw_grow (gw_drewN hw2 _) _⟩
            case measure => simp [intOf]; omega
          · have hs2 : decide (0 ≤ v) = true := decide_eq_true (by omega)
            go_wp2_with fail
            go_quiet_grown (first | (go_at_call 43; exact rtcmp_q l[j] l[k] v HV.out HFJ.out HFK.out _ _ _))
            go_wp2
            go_ret
            exact ⟨ret_int (isI_no hlt hjk HV.out (by omega)).symm, gw_grow (gw_drewN hw2 _) _⟩
        · go_wp2
          go_roundw
          case rel => exact ⟨k + 1, by omega, by go_num, PW.step hlt HX.out (by have h := HY.out; rwa [show j = k by omega] at h), hw2⟩
          case measure => simp [intOf]; omega
    · go_wp2
      go_ret
      exact ⟨ret_int (PW.all hlt HX.out).symm, hw⟩

/-- what the inner loop of Sorted keeps -/
def SI (x : Tup) (out nxt : List Tup) (b : Bool) (k : Nat) : Prop :=
  (if b = true then nxt ++ out.drop k else nxt ++ ins cmpT x (out.drop k)) = ins cmpT x out ∧ nxt.length ≤ k + 1
theorem SI.zero (x : Tup) (out : List Tup) : SI x out [] false 0 := ⟨by simp, by simp⟩
theorem drop_cons {α : Type} {l : List α} {k : Nat} (h : k < l.length) : l.drop k = l[k] :: l.drop (k + 1) := List.drop_eq_getElem_cons h
theorem SI.put_ {x : Tup} {out nxt m : List Tup} {k : Nat} (hk : k < out.length) (h : SI x out nxt false k) {v : Int} (hv : cmpT x out[k] = v) (hs : v < 0) (hl : nxt.length ≤ k) (hm : m = nxt ++ [x, out[k]]) : SI x out m true (k + 1) := by
  subst hm
  have h1 := h.1
  rw [if_neg (by decide), drop_cons hk, ins, if_pos (by rw [hv]; exact hs)] at h1
  refine ⟨?_, by simp; omega⟩
  rw [if_pos rfl, ← h1]; simp
theorem SI.on_ {x : Tup} {out nxt : List Tup} {k : Nat} (hk : k < out.length) (h : SI x out nxt false k) {v : Int} (hv : cmpT x out[k] = v) (hs : ¬ v < 0) : SI x out (nxt ++ [out[k]]) false (k + 1) := by
  have h1 := h.1
  rw [if_neg (by decide), drop_cons hk, ins, if_neg (by rw [hv]; exact hs)] at h1
  refine ⟨?_, by simp; exact h.2⟩
  rw [if_neg (by decide), ← h1]; simp
theorem SI.more {x : Tup} {out nxt : List Tup} {k : Nat} (hk : k < out.length) (h : SI x out nxt true k) : SI x out (nxt ++ [out[k]]) true (k + 1) := by
  have h1 := h.1
  rw [if_pos rfl, drop_cons hk] at h1
  refine ⟨?_, by simp; exact h.2⟩
  rw [if_pos rfl, ← h1]; simp
theorem SI.len {x : Tup} {out nxt : List Tup} {k : Nat} (hk : k ≤ out.length) (h : SI x out nxt false k) : nxt.length ≤ k := by
  have h1 := congrArg List.length h.1
  rw [if_neg (by decide), List.length_append, length_ins, length_ins, List.length_drop] at h1
  omega
theorem SI.last {x : Tup} {out nxt : List Tup} {k : Nat} (hk : ¬ k < out.length) (h : SI x out nxt false k) : nxt ++ [x] = ins cmpT x out := by
  have h1 := h.1
  rw [if_neg (by decide), List.drop_eq_nil_of_le (by omega)] at h1
  exact h1
theorem SI.done {x : Tup} {out nxt : List Tup} {k : Nat} (hk : ¬ k < out.length) (h : SI x out nxt true k) : nxt = ins cmpT x out := by
  have h1 := h.1
  rw [if_pos rfl, List.drop_eq_nil_of_le (by omega), List.append_nil] at h1
  exact h1
/-- the list of the first k -/
def fol (l : List Tup) (k : Nat) : List Tup := (l.take k).foldl (put1 cmpT) []
theorem fol_in {l : List Tup} {k : Nat} (hk : k < l.length) (h : l[k] ∈ fol l k) : fol l (k + 1) = fol l k := by
  unfold fol at *
  rw [List.take_succ_eq_append_getElem hk, List.foldl_append]
  show put1 cmpT (List.foldl (put1 cmpT) [] (l.take k)) l[k] = _
  generalize List.foldl (put1 cmpT) [] (l.take k) = z at *
  unfold put1; rw [if_pos h]
theorem fol_out {l : List Tup} {k : Nat} (hk : k < l.length) (h : l[k] ∉ fol l k) : fol l (k + 1) = ins cmpT l[k] (fol l k) := by
  unfold fol at *
  rw [List.take_succ_eq_append_getElem hk, List.foldl_append]
  show put1 cmpT (List.foldl (put1 cmpT) [] (l.take k)) l[k] = _
  generalize List.foldl (put1 cmpT) [] (l.take k) = z at *
  unfold put1; rw [if_neg h]
theorem fol_end {l : List Tup} {k : Nat} (hk : ¬ k < l.length) : fol l k = srt cmpT l := by unfold fol srt; rw [List.take_of_length_le (by omega)]
theorem fol_len (l : List Tup) (k : Nat) (hk : k ≤ l.length) : (fol l k).length ≤ k := by
  have := length_foldl_put1 (cmp := cmpT) (l.take k) []
  unfold fol
  rw [List.length_take, List.length_nil] at this
  omega
theorem fol_mem {l : List Tup} {k : Nat} : ∀ x ∈ fol l k, x ∈ l := fun x hx => by
  have := ((foldl_put1 tot (l.take k) [] List.Pairwise.nil).2 x).1 hx
  rcases this with h | h
  · exact List.mem_of_mem_take h
  · cases h
theorem Six.at0 {w : World} {b o : Nat} {x : Tup} (h : Six w b o x) : w.cell? ⟨b, o, none⟩ = some (.string x.a) ∧ w.cell? ⟨b, o + 1, none⟩ = some (.string x.b) ∧ w.cell? ⟨b, o + 2, none⟩ = some (.string x.c) ∧ w.cell? ⟨b, o + 3, none⟩ = some (.string x.d) ∧ w.cell? ⟨b, o + 4, none⟩ = some (.string x.e) ∧ w.cell? ⟨b, o + 5, none⟩ = some (.string x.f) := by
  have e : grow (w.drewN 0) #[] = w := by rw [grow_empty]; rfl
  obtain ⟨h0, h1, h2, h3, h4, h5⟩ := h
  exact ⟨e ▸ h0 0 #[], e ▸ h1 0 #[], e ▸ h2 0 #[], e ▸ h3 0 #[], e ▸ h4 0 #[], e ▸ h5 0 #[]⟩


end Go.Proofs.Ytgfgfggoofjeeaa
