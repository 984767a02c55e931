/-
  TuplesKnown returns true: the walk.
-/
import Derived.Test.YtcdhejaoidjecaaTMKnown
import Derived.Test.YtcdhejaoidjecaaTLSort
import Derived.Test.YtcdhejaoidjecaaTLCheck
import Derived.StillTailTactics
import Derived.Deep.LoopGhost
namespace Go.Proofs.Ytcdhejaoidjecaa
open Go.RowKit Go.Sort

/-- the slice of the eight texts -/
def T8 (q : Nat) (w : World) : Prop := (∀ i, i < 8 → ∃ s x, w.cell? ⟨q, i, none⟩ = some (.string s) ∧ rtup s = (x, 0) ∧ s.size ≤ 40 ∧ tp8[i]? = some x) ∧ q < w.heap.size
theorem T8.keep {q : Nat} {w w' : World} (h : T8 q w) (hb : Below w.heap.size w w') : T8 q w' :=
  ⟨fun i hi => by
    obtain ⟨s, x, h1, h2⟩ := h.1 i hi
    exact ⟨s, x, (own_cells hb _ h.2 _).1.trans h1, h2⟩, Nat.lt_of_lt_of_le h.2 hb.size⟩
theorem r8_0 : rtup ⟨#[97, 58, 98, 35, 99, 64, 100, 58, 101]⟩ = ((rtup ⟨#[97, 58, 98, 35, 99, 64, 100, 58, 101]⟩).1, 0) := by decide +kernel
theorem p8_0 : tp8[0]? = some (rtup ⟨#[97, 58, 98, 35, 99, 64, 100, 58, 101]⟩).1 := by decide +kernel
theorem r8_1 : rtup ⟨#[97, 58, 98, 35, 99, 64, 100, 58, 101, 35, 102]⟩ = ((rtup ⟨#[97, 58, 98, 35, 99, 64, 100, 58, 101, 35, 102]⟩).1, 0) := by decide +kernel
theorem p8_1 : tp8[1]? = some (rtup ⟨#[97, 58, 98, 35, 99, 64, 100, 58, 101, 35, 102]⟩).1 := by decide +kernel
theorem r8_2 : rtup ⟨#[97, 58, 98, 35, 99, 64, 100, 58, 101, 35, 103]⟩ = ((rtup ⟨#[97, 58, 98, 35, 99, 64, 100, 58, 101, 35, 103]⟩).1, 0) := by decide +kernel
theorem p8_2 : tp8[2]? = some (rtup ⟨#[97, 58, 98, 35, 99, 64, 100, 58, 101, 35, 103]⟩).1 := by decide +kernel
theorem r8_3 : rtup ⟨#[97, 58, 98, 35, 99, 64, 100, 58, 101, 97]⟩ = ((rtup ⟨#[97, 58, 98, 35, 99, 64, 100, 58, 101, 97]⟩).1, 0) := by decide +kernel
theorem p8_3 : tp8[3]? = some (rtup ⟨#[97, 58, 98, 35, 99, 64, 100, 58, 101, 97]⟩).1 := by decide +kernel
theorem r8_4 : rtup ⟨#[97, 58, 98, 35, 99, 64, 100, 97, 58, 97]⟩ = ((rtup ⟨#[97, 58, 98, 35, 99, 64, 100, 97, 58, 97]⟩).1, 0) := by decide +kernel
theorem p8_4 : tp8[4]? = some (rtup ⟨#[97, 58, 98, 35, 99, 64, 100, 97, 58, 97]⟩).1 := by decide +kernel
theorem r8_5 : rtup ⟨#[97, 58, 98, 35, 99, 97, 64, 97, 58, 97]⟩ = ((rtup ⟨#[97, 58, 98, 35, 99, 97, 64, 97, 58, 97]⟩).1, 0) := by decide +kernel
theorem p8_5 : tp8[5]? = some (rtup ⟨#[97, 58, 98, 35, 99, 97, 64, 97, 58, 97]⟩).1 := by decide +kernel
theorem r8_6 : rtup ⟨#[97, 58, 98, 97, 35, 97, 64, 97, 58, 97]⟩ = ((rtup ⟨#[97, 58, 98, 97, 35, 97, 64, 97, 58, 97]⟩).1, 0) := by decide +kernel
theorem p8_6 : tp8[6]? = some (rtup ⟨#[97, 58, 98, 97, 35, 97, 64, 97, 58, 97]⟩).1 := by decide +kernel
theorem r8_7 : rtup ⟨#[97, 97, 58, 97, 35, 97, 64, 97, 58, 97]⟩ = ((rtup ⟨#[97, 97, 58, 97, 35, 97, 64, 97, 58, 97]⟩).1, 0) := by decide +kernel
theorem p8_7 : tp8[7]? = some (rtup ⟨#[97, 97, 58, 97, 35, 97, 64, 97, 58, 97]⟩).1 := by decide +kernel
theorem t8_new (w : World) : T8 w.heap.size (w.alloc (.cells #[.string ⟨#[97, 58, 98, 35, 99, 64, 100, 58, 101]⟩, .string ⟨#[97, 58, 98, 35, 99, 64, 100, 58, 101, 35, 102]⟩, .string ⟨#[97, 58, 98, 35, 99, 64, 100, 58, 101, 35, 103]⟩, .string ⟨#[97, 58, 98, 35, 99, 64, 100, 58, 101, 97]⟩, .string ⟨#[97, 58, 98, 35, 99, 64, 100, 97, 58, 97]⟩, .string ⟨#[97, 58, 98, 35, 99, 97, 64, 97, 58, 97]⟩, .string ⟨#[97, 58, 98, 97, 35, 97, 64, 97, 58, 97]⟩, .string ⟨#[97, 97, 58, 97, 35, 97, 64, 97, 58, 97]⟩] 9)) := by
  refine ⟨fun i hi => ?_, by simp⟩
  match i, hi with
  | 0, _ => exact ⟨⟨#[97, 58, 98, 35, 99, 64, 100, 58, 101]⟩, _, by go_simp, r8_0, by decide, p8_0⟩
  | 1, _ => exact ⟨⟨#[97, 58, 98, 35, 99, 64, 100, 58, 101, 35, 102]⟩, _, by go_simp, r8_1, by decide, p8_1⟩
  | 2, _ => exact ⟨⟨#[97, 58, 98, 35, 99, 64, 100, 58, 101, 35, 103]⟩, _, by go_simp, r8_2, by decide, p8_2⟩
  | 3, _ => exact ⟨⟨#[97, 58, 98, 35, 99, 64, 100, 58, 101, 97]⟩, _, by go_simp, r8_3, by decide, p8_3⟩
  | 4, _ => exact ⟨⟨#[97, 58, 98, 35, 99, 64, 100, 97, 58, 97]⟩, _, by go_simp, r8_4, by decide, p8_4⟩
  | 5, _ => exact ⟨⟨#[97, 58, 98, 35, 99, 97, 64, 97, 58, 97]⟩, _, by go_simp, r8_5, by decide, p8_5⟩
  | 6, _ => exact ⟨⟨#[97, 58, 98, 97, 35, 97, 64, 97, 58, 97]⟩, _, by go_simp, r8_6, by decide, p8_6⟩
  | 7, _ => exact ⟨⟨#[97, 97, 58, 97, 35, 97, 64, 97, 58, 97]⟩, _, by go_simp, r8_7, by decide, p8_7⟩
theorem cmp8_at {i j : Nat} {x y : Tup} (hi : i < 8) (hj : j < 8) (hx : tp8[i]? = some x) (hy : tp8[j]? = some y) : cmpT x y = if i < j then -1 else if j < i then 1 else 0 := by
  have h := cmp8 ⟨i, hi⟩ ⟨j, hj⟩
  rw [List.getElem?_eq_getElem (show i < tp8.length from hi)] at hx
  rw [List.getElem?_eq_getElem (show j < tp8.length from hj)] at hy
  injection hx with e1
  injection hy with e2
  rw [← e1, ← e2]; exact h
theorem t2_keep {q i j : Nat} {s t : ByteArray} {W W' : World} (hb : Below W.heap.size W W') (h : W.cell? ⟨q, i, none⟩ = some (.string s) ∧ W.cell? ⟨q, j, none⟩ = some (.string t) ∧ q < W.heap.size) : W'.cell? ⟨q, i, none⟩ = some (.string s) ∧ W'.cell? ⟨q, j, none⟩ = some (.string t) ∧ q < W'.heap.size :=
  ⟨(own_cells hb _ h.2.2 _).1.trans h.1, (own_cells hb _ h.2.2 _).1.trans h.2.1, Nat.lt_of_lt_of_le h.2.2 hb.size⟩
theorem read_e (s : ByteArray) (x : Tup) (w : World) (hs : s.size ≤ 40) (h : rtup s = (x, 0)) :
    Calls Try.prog 8 #[.string s] w fun r w' => r = .returned (.agg #[.string x.a, .string x.b, .string x.c, .string x.d, .string x.e, .string x.f]) ∧ Below w.heap.size w w' :=
  read_v s x 0 w (Nat.le_trans hs (by decide)) h

theorem st_set {W : World} {b : Nat} {v : Value} (h : W.cell? ⟨b, 4, none⟩ = some (rv b 4 W) ∧ W.frozen? ⟨b, 4, none⟩ = false) : (W.setCell ⟨b, 4, none⟩ v).cell? ⟨b, 4, none⟩ = some (rv b 4 (W.setCell ⟨b, 4, none⟩ v)) ∧ (W.setCell ⟨b, 4, none⟩ v).frozen? ⟨b, 4, none⟩ = false := by
  obtain ⟨h1, h2⟩ := h
  refine ⟨rv_some (v := v) ?_, ?_⟩
  · go_simp
  · rw [World.frozen?_setCell]; exact h2
theorem mrg_nil2 {α : Type} (cmp : α → α → Int) : ∀ a : List α, mrg cmp a [] = a.map fun x => (x, true, false)
  | [] => by rw [mrg]; rfl
  | x :: a => by rw [mrg, mrg_nil2 cmp a]; rfl
theorem chs_nil2 {α : Type} (cmp : α → α → Int) (a : List α) : chs cmp (fun p q => p || q) a [] = a := by
  unfold chs; rw [mrg_nil2]
  simp [List.filter_map, Function.comp_def]
theorem six_c {w W : World} {b o o' k : Nat} {l : List Tup} {x : Tup} (h : Lies w b o l) (hk : k < l.length) (e : l[k] = x) (hb : Below w.heap.size w W) (ho : o' = o + k * 6) :
    W.cell? ⟨b, o', none⟩ = some (.string x.a) ∧ W.cell? ⟨b, o' + 1, none⟩ = some (.string x.b) ∧ W.cell? ⟨b, o' + 2, none⟩ = some (.string x.c) ∧ W.cell? ⟨b, o' + 3, none⟩ = some (.string x.d) ∧ W.cell? ⟨b, o' + 4, none⟩ = some (.string x.e) ∧ W.cell? ⟨b, o' + 5, none⟩ = some (.string x.f) := by
  subst e ho
  have h2 := (h.below hb).2 k hk
  exact ⟨h2 0 _ rfl, h2 1 _ rfl, h2 2 _ rfl, h2 3 _ rfl, h2 4 _ rfl, h2 5 _ rfl⟩
theorem kn_cells (w : World) (a b c d e f : ByteArray) : ∀ j u, (enc ⟨a, b, c, d, e, f⟩)[j]? = some u → (((w.alloc (.cells #[.string a, .string b, .string c, .string d, .string e, .string f] 30)).alloc (.cells #[.string a, .string b, .string c, .string d, .string e, .string f] 30)).drew).cell? ⟨w.heap.size + 1, j, none⟩ = some u := fun j u h => by
  have := new_cells (w.alloc (.cells #[.string a, .string b, .string c, .string d, .string e, .string f] 30)) ⟨a, b, c, d, e, f⟩ 30 j u h
  have e1 : (w.alloc (.cells #[.string a, .string b, .string c, .string d, .string e, .string f] 30)).heap.size = w.heap.size + 1 := by simp
  rw [e1] at this
  exact this
def digs : ByteArray := ⟨#[48, 49, 50, 51, 52, 53, 54, 55, 56, 57, 97, 98, 99, 100, 101, 102, 103, 104, 105, 106, 107, 108, 109, 110, 111, 112, 113, 114, 115, 116, 117, 118, 119, 120, 121, 122]⟩
theorem digs_at : ∀ p : Fin 36, digs.extract p.val (p.val + 1) = ⟨#[dig p.val]⟩ := by decide +kernel

set_option maxRecDepth 100000 in
set_option maxHeartbeats 16000000 in
theorem known_walk (w : World) :
    Calls Try.prog 3 #[] w fun e w' => e = .returned (.bool true) ∧ Below w.heap.size w w' := by
  have hmx := mixed
  go_enter Try.func3, Try.ntmps3
  go_wp2
  have h8 := t8_new w
  have hB0 : Below w.heap.size w (w.alloc (.cells #[.string ⟨#[97, 58, 98, 35, 99, 64, 100, 58, 101]⟩, .string ⟨#[97, 58, 98, 35, 99, 64, 100, 58, 101, 35, 102]⟩, .string ⟨#[97, 58, 98, 35, 99, 64, 100, 58, 101, 35, 103]⟩, .string ⟨#[97, 58, 98, 35, 99, 64, 100, 58, 101, 97]⟩, .string ⟨#[97, 58, 98, 35, 99, 64, 100, 97, 58, 97]⟩, .string ⟨#[97, 58, 98, 35, 99, 97, 64, 97, 58, 97]⟩, .string ⟨#[97, 58, 98, 97, 35, 97, 64, 97, 58, 97]⟩, .string ⟨#[97, 97, 58, 97, 35, 97, 64, 97, 58, 97]⟩] 9)) := g_alloc g_refl _
  generalize w.alloc (.cells #[.string ⟨#[97, 58, 98, 35, 99, 64, 100, 58, 101]⟩, .string ⟨#[97, 58, 98, 35, 99, 64, 100, 58, 101, 35, 102]⟩, .string ⟨#[97, 58, 98, 35, 99, 64, 100, 58, 101, 35, 103]⟩, .string ⟨#[97, 58, 98, 35, 99, 64, 100, 58, 101, 97]⟩, .string ⟨#[97, 58, 98, 35, 99, 64, 100, 97, 58, 97]⟩, .string ⟨#[97, 58, 98, 35, 99, 97, 64, 97, 58, 97]⟩, .string ⟨#[97, 58, 98, 97, 35, 97, 64, 97, 58, 97]⟩, .string ⟨#[97, 97, 58, 97, 35, 97, 64, 97, 58, 97]⟩] 9) = W1 at *
  have H8 := hid h8
  clear h8
  go_loopw [2] (fun v wr => ∃ i : Nat, i ≤ 8 ∧ v = .int .i64 i ∧ T8 w.heap.size wr ∧ Below w.heap.size w wr) (fun i _ => 8 - (intOf i).toNat)
  case atStart => exact ⟨0, by omega, rfl, H8.out, hB0⟩
  case round =>
    clear H8 hB0
    obtain ⟨i, hi, rfl, hT, hB⟩ := hrel
    have HT := hid hT
    clear hT
    by_cases hlt : i < 8
    · have hlt' : (i : Int) < 8 := by omega
      go_wp2
      go_loopw [3] (fun v wq => ∃ j : Nat, j ≤ 8 ∧ v = .int .i64 j ∧ T8 w.heap.size wq ∧ Below w.heap.size w wq) (fun i _ => 8 - (intOf i).toNat)
      case atStart => exact ⟨0, by omega, rfl, HT.out, hB⟩
      case round =>
        clear HT hB
        obtain ⟨j, hj, rfl, hT, hB⟩ := hrel
        by_cases hjt : j < 8
        · have hjt' : (j : Int) < 8 := by omega
          obtain ⟨s, x, c1, r1, z1, p1⟩ := hT.1 i hlt
          obtain ⟨t, y, c2, r2, z2, p2⟩ := hT.1 j hjt
          have hq := hT.2
          have hv := cmp8_at hlt hjt p1 p2
          have HT := hid hT
          have R1 := hid r1
          have R2 := hid r2
          have Z1 := hid z1
          have Z2 := hid z2
          clear hT p1 p2 r1 r2 z1 z2
          rcases Nat.lt_trichotomy i j with ho | ho | ho
          · rw [if_pos ho] at hv
            have HV := hid hv
            clear hv
            have hS := And.intro c1 (And.intro c2 hq)
            go_wp2_with fail
            go_region_held3 (fun w' => w'.cell? ⟨w.heap.size, i, none⟩ = some (.string s) ∧ w'.cell? ⟨w.heap.size, j, none⟩ = some (.string t) ∧ w.heap.size < w'.heap.size) (first | assumption | exact t2_keep (by assumption) (by assumption))
              (first | (go_at_call 8; with_reducible refine Calls.mono (read_e s x _ Z1.out R1.out) ?_; rintro e w' ⟨rfl, hw⟩) | (go_at_call 8; with_reducible refine Calls.mono (read_e t y _ Z2.out R2.out) ?_; rintro e w' ⟨rfl, hw⟩) | (go_at_call 7; with_reducible refine Calls.mono (tcmp_e x y _ _ HV.out) ?_; rintro e w' ⟨rfl, hw⟩))
            all_goals
              go_wp2
              go_roundw
              case rel =>
                refine ⟨j + 1, by omega, by go_num, ?_, ?_⟩
                · refine HT.out.keep ?_
                  repeat (refine g_trans ?_ (by assumption))
                  exact g_drew g_refl
                · repeat (refine g_trans ?_ (by assumption))
                  exact g_drew hB
              case measure => simp [intOf]; omega
          · subst ho
            rw [if_neg (Nat.lt_irrefl _), if_neg (Nat.lt_irrefl _)] at hv
            obtain rfl : s = t := by have e := c1.symm.trans c2; simpa using e
            obtain rfl : x = y := by have e := R1.out.symm.trans R2.out; simpa using e
            have HV := hid hv
            clear hv
            have hS := And.intro c1 (And.intro c2 hq)
            go_wp2_with fail
            go_region_held3 (fun w' => w'.cell? ⟨w.heap.size, i, none⟩ = some (.string s) ∧ w'.cell? ⟨w.heap.size, i, none⟩ = some (.string s) ∧ w.heap.size < w'.heap.size) (first | assumption | exact t2_keep (by assumption) (by assumption))
              (first | (go_at_call 8; with_reducible refine Calls.mono (read_e s x _ Z1.out R1.out) ?_; rintro e w' ⟨rfl, hw⟩) | (go_at_call 8; with_reducible refine Calls.mono (read_e s x _ Z2.out R2.out) ?_; rintro e w' ⟨rfl, hw⟩) | (go_at_call 7; with_reducible refine Calls.mono (tcmp_e x x _ _ HV.out) ?_; rintro e w' ⟨rfl, hw⟩))
            all_goals
              go_wp2
              go_roundw
              case rel =>
                refine ⟨i + 1, by omega, by go_num, ?_, ?_⟩
                · refine HT.out.keep ?_
                  repeat (refine g_trans ?_ (by assumption))
                  exact g_drew g_refl
                · repeat (refine g_trans ?_ (by assumption))
                  exact g_drew hB
              case measure => simp [intOf]; omega
          · rw [if_neg (by omega), if_pos ho] at hv
            have HV := hid hv
            clear hv
            have hno : ¬ i < j := by omega
            have hS := And.intro c1 (And.intro c2 hq)
            go_wp2_with fail
            go_region_held3 (fun w' => w'.cell? ⟨w.heap.size, i, none⟩ = some (.string s) ∧ w'.cell? ⟨w.heap.size, j, none⟩ = some (.string t) ∧ w.heap.size < w'.heap.size) (first | assumption | exact t2_keep (by assumption) (by assumption))
              (first | (go_at_call 8; with_reducible refine Calls.mono (read_e s x _ Z1.out R1.out) ?_; rintro e w' ⟨rfl, hw⟩) | (go_at_call 8; with_reducible refine Calls.mono (read_e t y _ Z2.out R2.out) ?_; rintro e w' ⟨rfl, hw⟩) | (go_at_call 7; with_reducible refine Calls.mono (tcmp_e x y _ _ HV.out) ?_; rintro e w' ⟨rfl, hw⟩))
            all_goals
              go_wp2
              go_roundw
              case rel =>
                refine ⟨j + 1, by omega, by go_num, ?_, ?_⟩
                · refine HT.out.keep ?_
                  repeat (refine g_trans ?_ (by assumption))
                  exact g_drew g_refl
                · repeat (refine g_trans ?_ (by assumption))
                  exact g_drew hB
              case measure => simp [intOf]; omega
        · go_wp2
          go_roundw
          case rel => exact ⟨i + 1, by omega, by go_num, hT, hB⟩
          case measure => simp [intOf]; omega
    · have hi8 : ¬ (i : Int) < 8 := by omega
      clear hlt hi
      clear HT
      go_wp2
      generalize wr = W5 at *
      go_loopg [5, 7] 4097 (fun m v i wq => ∃ k : Nat, m = 4097 - k ∧ k ≤ 4097 ∧ i = .int .i64 k ∧ Own wq W5.heap.size v (ktL k) ∧ Below W5.heap.size W5 wq)
      case atStart => exact ⟨0, rfl, by omega, rfl, Own.nil _ _, g_refl⟩
      case round =>
        obtain ⟨k, hm, hk, rfl, hown, hw⟩ := hrel
        have HM := hid hm
        clear hm
        have hlen := ktL_len k
        by_cases hlt : k < 4097
        · have hlt' : (k : Int) < 4097 := by omega
          obtain ⟨p1, hp1⟩ : ∃ p, k / 1296 = p := ⟨_, rfl⟩
          obtain ⟨m1, hm1⟩ : ∃ p, k / 36 = p := ⟨_, rfl⟩
          obtain ⟨p2, hp2⟩ : ∃ p, m1 % 36 = p := ⟨_, rfl⟩
          obtain ⟨p3, hp3⟩ : ∃ p, k % 36 = p := ⟨_, rfl⟩
          have i1 : (k : Int) / 1296 = (p1 : Int) := by omega
          have i2 : (k : Int) / 36 = (m1 : Int) := by omega
          have i3 : (m1 : Int) % 36 = (p2 : Int) := by omega
          have i4 : (k : Int) % 36 = (p3 : Int) := by omega
          have j1 : p1 < 4 := by omega
          have j2 : p2 < 36 := by omega
          have j3 : p3 < 36 := by omega
          have j4 : m1 < 200 := by omega
          have HK : Hid (kt k = ⟨⟨#[97]⟩, ⟨#[98]⟩, ⟨#[99]⟩, ⟨#[100]⟩, ⟨#[dig p1, dig p2, dig p3]⟩, ⟨#[]⟩⟩) := by show _ = _; unfold kt id3; rw [hp1, hm1, hp2, hp3]
          clear hp1 hm1 hp2 hp3
          go_wp2_with fail
          refine (read_v ⟨#[97, 58, 98, 35, 99, 64, 100, 58, 101]⟩ ⟨⟨#[97]⟩, ⟨#[98]⟩, ⟨#[99]⟩, ⟨#[100]⟩, ⟨#[101]⟩, ⟨#[]⟩⟩ 0 _ (by decide) read0).mono ?_
          rintro e w1 ⟨rfl, hw1⟩
          dsimp only
          have hown1 := hid (hown.below hw1)
          have hB1 := hid (g_trans hw hw1)
          have hz1 := hw1.size
          clear hown hw hw1
          go_wp2_with fail
          have s4 : (w1.alloc (.cells #[.string ⟨#[97]⟩, .string ⟨#[98]⟩, .string ⟨#[99]⟩, .string ⟨#[100]⟩, .string ⟨#[101]⟩, .string ⟨#[]⟩] 30)).cell? ⟨w1.heap.size, 4, none⟩ = some (.string ⟨#[101]⟩) := by go_simp
          have s5 : (w1.alloc (.cells #[.string ⟨#[97]⟩, .string ⟨#[98]⟩, .string ⟨#[99]⟩, .string ⟨#[100]⟩, .string ⟨#[101]⟩, .string ⟨#[]⟩] 30)).frozen? ⟨w1.heap.size, 4, none⟩ = false := by go_simp
          have sS := And.intro (rv_some s4) s5
          have g0 : (0 : Int) ≤ (k : Int) := by omega
          have gm : (0 : Int) ≤ (m1 : Int) := by omega
          have gn : (m1 : Int) < 200 := by omega
          have u1 : (p1 : Int) < 4 := by omega
          have u2 : (p2 : Int) < 36 := by omega
          have u3 : (p3 : Int) < 36 := by omega
          have g1 : (0 : Int) ≤ (p1 : Int) := by omega
          have g2 : (0 : Int) ≤ (p2 : Int) := by omega
          have g3 : (0 : Int) ≤ (p3 : Int) := by omega
          have f1 : (p1 : Int) ≤ (p1 : Int) + 1 := by omega
          have f2 : (p2 : Int) ≤ (p2 : Int) + 1 := by omega
          have f3 : (p3 : Int) ≤ (p3 : Int) + 1 := by omega
          have v1 : (0 : Int) ≤ (p1 : Int) + 1 := by omega
          have v2 : (0 : Int) ≤ (p2 : Int) + 1 := by omega
          have v3 : (0 : Int) ≤ (p3 : Int) + 1 := by omega
          have n1 : ((p1 : Int) + 1).toNat = p1 + 1 := by omega
          have n2 : ((p2 : Int) + 1).toNat = p2 + 1 := by omega
          have n3 : ((p3 : Int) + 1).toNat = p3 + 1 := by omega
          have t1 := digs_at ⟨p1, by omega⟩
          have t2 := digs_at ⟨p2, j2⟩
          have t3 := digs_at ⟨p3, j3⟩
          have hsz : digs.size = 36 := by decide
          have x1 : IntKind.i64.wrap ((p1 : Int) + 1) = (p1 : Int) + 1 := IntWalk.i64_in _ (by omega)
          have x2 : IntKind.i64.wrap ((p2 : Int) + 1) = (p2 : Int) + 1 := IntWalk.i64_in _ (by omega)
          have x3 : IntKind.i64.wrap ((p3 : Int) + 1) = (p3 : Int) + 1 := IntWalk.i64_in _ (by omega)
          have y1 : (p1 : Int) + 1 ≤ (digs.size : Int) := by omega
          have y2 : (p2 : Int) + 1 ≤ (digs.size : Int) := by omega
          have y3 : (p3 : Int) + 1 ≤ (digs.size : Int) := by omega
          clear hsz
          show Code.wp _ _ _ _ _
          dsimp only at t1 t2 t3
          rw [show (⟨#[48, 49, 50, 51, 52, 53, 54, 55, 56, 57, 97, 98, 99, 100, 101, 102, 103, 104, 105, 106, 107, 108, 109, 110, 111, 112, 113, 114, 115, 116, 117, 118, 119, 120, 121, 122]⟩ : ByteArray) = digs from rfl]
          generalize hD : digs = D at *
          have HD := hid hD
          clear hD
          have q1 : (k : Int).tdiv 1296 = (p1 : Int) := by rw [Int.tdiv_eq_ediv_of_nonneg (by omega)]; exact i1
          have q2 : (k : Int).tdiv 36 = (m1 : Int) := by rw [Int.tdiv_eq_ediv_of_nonneg (by omega)]; exact i2
          have q3 : (m1 : Int).tmod 36 = (p2 : Int) := by rw [Int.tmod_eq_emod_of_nonneg (by omega)]; exact i3
          have q4 : (k : Int).tmod 36 = (p3 : Int) := by rw [Int.tmod_eq_emod_of_nonneg (by omega)]; exact i4
          have e1 : IntKind.i64.wrap (p1 : Int) = (p1 : Int) := IntWalk.i64_in _ (by omega)
          have e2 : IntKind.i64.wrap (m1 : Int) = (m1 : Int) := IntWalk.i64_in _ (by omega)
          have e3 : IntKind.i64.wrap (p2 : Int) = (p2 : Int) := IntWalk.i64_in _ (by omega)
          have e4 : IntKind.i64.wrap (p3 : Int) = (p3 : Int) := IntWalk.i64_in _ (by omega)
          have hcat : (⟨#[dig p1]⟩ : ByteArray) ++ ⟨#[dig p2]⟩ ++ ⟨#[dig p3]⟩ = ⟨#[dig p1, dig p2, dig p3]⟩ := rfl
          have HQ := hid (And.intro j1 (And.intro j2 (And.intro j3 j4)))
          go_still_tail 28, (by kernel_rfl)
          change wpList _ _ _ _ _ (w1.alloc (.cells #[.string ⟨#[97]⟩, .string ⟨#[98]⟩, .string ⟨#[99]⟩, .string ⟨#[100]⟩, .string ⟨#[101]⟩, .string ⟨#[]⟩] 30)).drew
          clear i1 i2 i3 i4 q1 q2 q3 q4 e1 e2 e3 e4 t1 t2 t3 x1 x2 x3 y1 y2 y3 n1 n2 n3 v1 v2 v3 f1 f2 f3 g1 g2 g3 u1 u2 u3 gm gn hcat s4 s5 sS j1 j2 j3 j4
          go_wp2_with (at_builtin; refine wp_app _ _ rfl rfl W5.heap.size _ (ktL k) (w1.heap.size + 1) 1 ⟨⟨#[97]⟩, ⟨#[98]⟩, ⟨#[99]⟩, ⟨#[100]⟩, ⟨#[dig p1, dig p2, dig p3]⟩, ⟨#[]⟩⟩ rfl rfl (hown1.out.below (g_drew (g_alloc (g_alloc g_refl _) _))) (kn_cells w1 ⟨#[97]⟩ ⟨#[98]⟩ ⟨#[99]⟩ ⟨#[100]⟩ ⟨#[dig p1, dig p2, dig p3]⟩ ⟨#[]⟩) (by rw [hlen]; omega) (by have := hB1.out.size; simp; omega) ?_; intro v' w' h1 h2 h3)
          obtain rfl := HD.out
          rw [← HK.out, ktL_step] at h1
          have HO := hid h1
          have HB2 := hid (show Below W5.heap.size W5 w' from (g_trans hB1.out (g_drew (g_alloc (g_alloc g_refl (.cells #[.string ⟨#[97]⟩, .string ⟨#[98]⟩, .string ⟨#[99]⟩, .string ⟨#[100]⟩, .string ⟨#[dig p1, dig p2, dig p3]⟩, .string ⟨#[]⟩] 30)) (.cells #[.string ⟨#[97]⟩, .string ⟨#[98]⟩, .string ⟨#[99]⟩, .string ⟨#[100]⟩, .string ⟨#[dig p1, dig p2, dig p3]⟩, .string ⟨#[]⟩] 30)))).grown h2 (by have := hB1.out.size; simp; omega) (fun k hk => (Own.lt hown1.out k hk).1))
          go_wp2
          go_roundg (4097 - (k + 1))
          case measure => rw [HM.out]; omega
          case rel => exact ⟨k + 1, rfl, by omega, by go_num, HO.out, HB2.out⟩
        · obtain rfl : k = 4097 := by omega
          clear HM hk hlt
          have HO := hid hown
          have HB := hid hw
          clear hown hw
          obtain ⟨A, cl, rfl, hrow, hcl, hcm⟩ := HO.out.row
          have hne : ktL 4097 ≠ [] := fun e => by rw [e] at hlen; cases hlen
          obtain ⟨gA, oA, rfl, hlies⟩ := hrow hne
          have HR := hid hrow
          have HLI := hid hlies
          have HLN := hid hlen
          have HCL := hid (show 4097 ≤ cl by rw [hlen] at hcl; exact hcl)
          have h4 : (4096 : Int) ≤ (cl : Int) := by have := HCL.out; omega
          rw [hlen]
          clear hrow hlies hcl hcm hlen hne
          have HTK := hid (ktL_take 4096 4097 (by decide))
          have hr4 : ∀ W', Below wr.heap.size wr W' → Row W' (some ⟨gA, oA, none⟩) (ktL 4096) := fun W' hb _ => ⟨gA, oA, rfl, (HLI.out.below hb).1, fun j hj c v h => by
            have hj2 : j < (ktL 4097).length := by rw [ktL_len] at hj ⊢; omega
            refine (HLI.out.below hb).2 j hj2 c v ?_
            rw [ktL_get] at h ⊢; exact h⟩
          have HR4 := hid hr4
          have hL4 := ktL_len 4096
          have HUN := hid (fun (W' : World) (hb : Below wr.heap.size wr W') => union_yes (some ⟨gA, oA, none⟩) none (ktL 4096) [] cl 0 W' (hr4 W' hb) (Row.nil _ _) (by rw [hL4]; exact Nat.le_trans (by decide) HCL.out) (Nat.le_refl _) (by rw [hL4]; exact Nat.le_refl _) (Nat.zero_le _) (ktL_isB 4096 (by decide)) rfl)
          rw [hL4] at HUN
          have HCH : Hid (chs cmpT (fun p q => p || q) (ktL 4096) [] = ktL 4096) := hid (chs_nil2 cmpT _)
          rw [HCH.out] at HUN
          clear hr4
          go_wp2_with fail
          refine (HUN.out _ g_refl).mono ?_
          rintro _ w2 ⟨A2, rfl, -, hg2, -, -⟩
          rw [hL4]
          have HB2 := hid hg2.toBelow
          clear hg2 hL4
          go_wp2_with fail
          refine (common_no (.slice (some ⟨gA, oA, none⟩) 4097 cl) (.slice none 0 0) 3 _ (choose_limit _ _ _ 4097 0 cl 0 _ (.inl (by decide)))).mono ?_
          rintro _ w3 ⟨rfl, hg3⟩
          have HB3 := hid (g_trans HB2.out hg3.toBelow)
          clear hg3
          have hk0 : 0 < (ktL 4097).length := by rw [HLN.out]; decide
          have hk1 : 1 < (ktL 4097).length := by rw [HLN.out]; decide
          obtain ⟨x0, hx0⟩ : ∃ x, (ktL 4097)[0] = x := ⟨_, rfl⟩
          obtain ⟨x1, hx1⟩ : ∃ x, (ktL 4097)[1] = x := ⟨_, rfl⟩
          obtain ⟨c0, c1, c2, c3, c4, c5⟩ := six_c HLI.out hk0 hx0 (g_drew HB3.out) (o' := oA) (by omega)
          obtain ⟨d0, d1, d2, d3, d4, d5⟩ := six_c HLI.out hk1 hx1 (g_drew HB3.out) (o' := oA + 6) (by omega)
          have d1' : w3.drew.cell? ⟨gA, oA + 7, none⟩ = some (.string x1.b) := d1
          have d2' : w3.drew.cell? ⟨gA, oA + 8, none⟩ = some (.string x1.c) := d2
          have d3' : w3.drew.cell? ⟨gA, oA + 9, none⟩ = some (.string x1.d) := d3
          have d4' : w3.drew.cell? ⟨gA, oA + 10, none⟩ = some (.string x1.e) := d4
          have d5' : w3.drew.cell? ⟨gA, oA + 11, none⟩ = some (.string x1.f) := d5
          clear hx0 hx1 hk0 hk1
          go_upto_region 25 with fail
          go_region_with (first | (go_at_call 11; (with_reducible refine Calls.mono (without_no _ _ 3 _ (choose_limit _ _ _ 2 4097 2 cl _ (.inr (by decide)))) ?_); rintro _ w4 ⟨rfl, hg4⟩))
          all_goals
            have HB4 := hid (show Below wr.heap.size wr w4 from by
              refine g_trans ?_ hg4.toBelow
              repeat (first | with_reducible exact HB3.out | with_reducible refine g_drew ?_ | with_reducible refine g_alloc ?_ _))
            have hk2 : 4096 < (ktL 4097).length := by rw [HLN.out]; decide
            obtain ⟨x2, hx2⟩ : ∃ x, (ktL 4097)[4096] = x := ⟨_, rfl⟩
            have hxk : x2 = kt 4096 := by rw [← hx2, ktL_get]
            have hfi := ktL_fnd 4097 4096 (by decide) (by decide)
            have hme := ktL_mem 4097 4096 (by decide)
            rw [← hxk] at hfi hme
            have HFD := hid (fun (W' : World) (hb : Below wr.heap.size wr W') => tfind (some ⟨gA, oA, none⟩) (ktL 4097) cl x2 W' (HR.out.below hb) (ktL_isB 4097 (by decide)) (by rw [HLN.out]; decide))
            rw [hfi, HLN.out, decide_eq_true hme] at HFD
            obtain ⟨m0, m1, m2, m3, m4, m5⟩ := six_c HLI.out hk2 hx2 HB4.out (o' := oA + 24576) (by omega)
            have m1' : w4.cell? ⟨gA, oA + 24577, none⟩ = some (.string x2.b) := m1
            have m2' : w4.cell? ⟨gA, oA + 24578, none⟩ = some (.string x2.c) := m2
            have m3' : w4.cell? ⟨gA, oA + 24579, none⟩ = some (.string x2.d) := m3
            have m4' : w4.cell? ⟨gA, oA + 24580, none⟩ = some (.string x2.e) := m4
            have m5' : w4.cell? ⟨gA, oA + 24581, none⟩ = some (.string x2.f) := m5
            clear hx2 hxk hfi hme hk2
            go_wp2_with fail
            refine (HFD.out _ HB4.out).mono ?_
            rintro _ w5 ⟨rfl, hg5⟩
            have HB5 := hid (g_trans HB4.out hg5.toBelow)
            clear hg5 m0 m1 m2 m3 m4 m5 m1' m2' m3' m4' m5'
            go_wp2_with fail
            refine (lives_any _).mono ?_
            rintro _ w6 ⟨rfl, hb6⟩
            have HB6 := hid (g_trans HB5.out hb6)
            clear hb6
            go_wp2
            go_ret
            exact ⟨rfl, g_trans hB (g_trans HB.out HB6.out)⟩

end Go.Proofs.Ytcdhejaoidjecaa
