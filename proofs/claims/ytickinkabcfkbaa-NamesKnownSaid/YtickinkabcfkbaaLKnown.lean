/-
  NamesKnown returns true: the walk of the closed statement.
-/
import Derived.Test.YtickinkabcfkbaaWLives
import Derived.Laws.IdiomStrings
namespace Go.Proofs.Ytickinkabcfkbaa
open Go.RowKit

theorem nb_one (k : Nat) (_h : k < 256) : nb ⟨#[UInt8.ofNat k]⟩ = nameByte (UInt8.ofNat k) := by
  unfold nb isName; simp
theorem nat_byte (k : Nat) (h : k < 256) : ((UInt8.ofNat k).toNat : Int) = k := by
  have : (UInt8.ofNat k).toNat = k := by rw [UInt8.toNat_ofNat']; omega
  rw [this]
theorem nb_one_yes (k : Nat) (h : k < 256) (hk : (97 ≤ k ∧ k ≤ 122) ∨ (48 ≤ k ∧ k ≤ 57)) : nb ⟨#[UInt8.ofNat k]⟩ = true := by
  rw [nb_one k h]; exact nb_true _ (by rw [nat_byte k h]; omega)
theorem nb_one_no (k : Nat) (h : k < 256) (hk : ¬ ((97 ≤ k ∧ k ≤ 122) ∨ (48 ≤ k ∧ k ≤ 57))) : nb ⟨#[UInt8.ofNat k]⟩ = false := by
  rw [nb_one k h]; exact nb_false _ (by rw [nat_byte k h]; omega)
theorem conv_one (W : World) (k : Nat) (h : k < 256) :
    (convert 56 9 (.slice (some ⟨W.heap.size, 0, none⟩) 1 1)).run Try.prog (W.alloc (.cells #[.int .u8 (k : Int)] 5)) = .ok (.string ⟨#[UInt8.ofNat k]⟩) (W.alloc (.cells #[.int .u8 (k : Int)] 5)) :=
  run_convert_bytes_back (P := Try.prog) _ 56 9 5 ⟨W.heap.size, 0, none⟩ 1 [UInt8.ofNat k] Try.underlying56 Try.underlying5 Try.underlying9 (fun j hj => by
    have : j = 0 := by simpa using hj
    subst this
    simp only [List.getElem_cons_zero, nat_byte k h]
    exact cell_one_new W (.int .u8 (k : Int)) 5 0 _ rfl)

/-- the string that the second loop cuts -/
def long : ByteArray := ⟨#[97, 98, 99, 100, 101, 102, 103, 104, 105, 106, 107, 108, 109, 110, 111, 112, 113]⟩
theorem nb_long_yes : ∀ k, 0 < k → k < 17 → nb (long.extract 0 k) = true := by
  intro k h1 h2
  have : ∀ k : Fin 17, 0 < k.val → nb (long.extract 0 k.val) = true := by decide +kernel
  exact this ⟨k, h2⟩ h1
theorem nb_long_no : ∀ k, k ≤ 17 → (k = 0 ∨ k = 17) → nb (long.extract 0 k) = false := by
  intro k _ h
  rcases h with rfl | rfl <;> decide +kernel

def fsL : List ByteArray := [⟨#[]⟩, ⟨#[58]⟩, ⟨#[35]⟩, ⟨#[97]⟩, ⟨#[97, 35, 98]⟩, ⟨#[97, 58, 98, 35, 99, 35, 100]⟩, ⟨#[97, 58, 98, 35, 99, 58, 100]⟩, ⟨#[97, 35, 98, 58, 99, 35, 100]⟩, ⟨#[58, 58]⟩, ⟨#[97, 58, 35, 98]⟩, ⟨#[58, 98]⟩, ⟨#[97, 58, 98, 35]⟩, ⟨#[65, 58, 98]⟩, ⟨#[97, 58, 98, 35, 67]⟩]
def wantL : List Int := [5, 6, 5, 5, 5, 5, 5, 5, 5, 6, 6, 6, 6, 6]
theorem pf_known : ∀ k : Fin 14, (parseF (fsL.getD k.val ⟨#[]⟩) 0 1).2.2.2 = wantL.getD k.val 0 ∧ (fsL.getD k.val ⟨#[]⟩).size ≤ 40 := by decide +kernel
theorem parseSubject_e (s : ByteArray) (v : Int) (w : World) (hs : s.size ≤ 40) (h : (parseF s 0 1).2.2.2 = v) :
    Calls Try.prog 23 #[.string s] w fun e w' => e = .returned (.tuple #[.agg #[.string (parseF s 0 1).1, .string (parseF s 0 1).2.1, .string (parseF s 0 1).2.2.1], .int .i64 v]) ∧ Below w.heap.size w w' := by
  have q := parseSubject_any s w (Nat.le_trans hs (by decide))
  unfold SubjectRet at q
  rw [h] at q
  exact q

theorem fs_cells (W : World) : ∀ k, k < 14 → (W.alloc (.cells #[.string ⟨#[]⟩, .string ⟨#[58]⟩, .string ⟨#[35]⟩, .string ⟨#[97]⟩, .string ⟨#[97, 35, 98]⟩, .string ⟨#[97, 58, 98, 35, 99, 35, 100]⟩, .string ⟨#[97, 58, 98, 35, 99, 58, 100]⟩, .string ⟨#[97, 35, 98, 58, 99, 35, 100]⟩, .string ⟨#[58, 58]⟩, .string ⟨#[97, 58, 35, 98]⟩, .string ⟨#[58, 98]⟩, .string ⟨#[97, 58, 98, 35]⟩, .string ⟨#[65, 58, 98]⟩, .string ⟨#[97, 58, 98, 35, 67]⟩] 9)).cell? ⟨W.heap.size, k, none⟩ = some (.string (fsL.getD k ⟨#[]⟩)) := by
  intro k h
  rcases (by omega : k = 0 ∨ k = 1 ∨ k = 2 ∨ k = 3 ∨ k = 4 ∨ k = 5 ∨ k = 6 ∨ k = 7 ∨ k = 8 ∨ k = 9 ∨ k = 10 ∨ k = 11 ∨ k = 12 ∨ k = 13) with rfl | rfl | rfl | rfl | rfl | rfl | rfl | rfl | rfl | rfl | rfl | rfl | rfl | rfl <;> go_simp <;> rfl
theorem want_cells (W : World) : ∀ k, k < 14 → (W.alloc (.cells #[.int .i64 5, .int .i64 6, .int .i64 5, .int .i64 5, .int .i64 5, .int .i64 5, .int .i64 5, .int .i64 5, .int .i64 5, .int .i64 6, .int .i64 6, .int .i64 6, .int .i64 6, .int .i64 6] 30)).cell? ⟨W.heap.size, k, none⟩ = some (.int .i64 (wantL.getD k 0)) := by
  intro k h
  rcases (by omega : k = 0 ∨ k = 1 ∨ k = 2 ∨ k = 3 ∨ k = 4 ∨ k = 5 ∨ k = 6 ∨ k = 7 ∨ k = 8 ∨ k = 9 ∨ k = 10 ∨ k = 11 ∨ k = 12 ∨ k = 13) with rfl | rfl | rfl | rfl | rfl | rfl | rfl | rfl | rfl | rfl | rfl | rfl | rfl | rfl <;> go_simp <;> rfl

set_option maxRecDepth 100000 in
set_option maxHeartbeats 4000000 in
theorem known_walk (w : World) :
    Calls Try.prog 6 #[] w fun e w' => e = .returned (.bool true) ∧ Below w.heap.size w w' := by
  go_enter Try.func6, Try.ntmps6
  go_wp2
  go_loopw [1] (fun i wr => ∃ k : Nat, k ≤ 256 ∧ i = .int .i64 k ∧ Below w.heap.size w wr) (fun i _ => 256 - (intOf i).toNat)
  case atStart => exact ⟨0, by omega, rfl, g_refl⟩
  case round =>
    obtain ⟨k, hk, rfl, hw⟩ := hrel
    by_cases hlt : k < 256
    · have cv := conv_one wr k hlt
      have hl : (k : Int) < 256 := by omega
      by_cases h0 : k < 48
      · have g1 : (k : Int) < 48 := by omega
        have g2 : (k : Int) < 97 := by omega
        have HB := hid (nb_one_no k hlt (by omega))
        go_wp2_with fail
        refine (c_no _ _ (Nat.le_of_ble_eq_true rfl) HB.out).mono ?_
        rintro e w' ⟨rfl, rfl⟩
        go_wp2
        go_roundw
        case rel => exact ⟨k + 1, by omega, by go_num, g_alloc hw _⟩
        case measure => simp [intOf]; omega
      · have hn0 : ¬ k < 48 := h0
        by_cases h1 : k < 58
        · have g1 : ¬ (k : Int) < 48 := by omega
          have g2 : (k : Int) < 97 := by omega
          have g3 : (k : Int) ≤ 57 := by omega
          have g4 : (48 : Int) ≤ k := by omega
          have HB := hid (nb_one_yes k hlt (by omega))
          go_wp2_with fail
          refine (c_yes _ _ (Nat.le_of_ble_eq_true rfl) HB.out).mono ?_
          rintro e w' ⟨rfl, rfl⟩
          go_wp2
          go_roundw
          case rel => exact ⟨k + 1, by omega, by go_num, g_alloc hw _⟩
          case measure => simp [intOf]; omega
        · have hn1 : ¬ k < 58 := h1
          by_cases h2 : k < 97
          · have g1 : ¬ (k : Int) < 48 := by omega
            have g2 : (k : Int) < 97 := by omega
            have g3 : ¬ (k : Int) ≤ 57 := by omega
            have g4 : (48 : Int) ≤ k := by omega
            have HB := hid (nb_one_no k hlt (by omega))
            go_wp2_with fail
            refine (c_no _ _ (Nat.le_of_ble_eq_true rfl) HB.out).mono ?_
            rintro e w' ⟨rfl, rfl⟩
            go_wp2
            go_roundw
            case rel => exact ⟨k + 1, by omega, by go_num, g_alloc hw _⟩
            case measure => simp [intOf]; omega
          · have hn2 : ¬ k < 97 := h2
            by_cases h3 : k < 123
            · have g2 : (97 : Int) ≤ k := by omega
              have g3 : (k : Int) ≤ 122 := by omega
              have HB := hid (nb_one_yes k hlt (by omega))
              go_wp2_with fail
              refine (c_yes _ _ (Nat.le_of_ble_eq_true rfl) HB.out).mono ?_
              rintro e w' ⟨rfl, rfl⟩
              go_wp2
              go_roundw
              case rel => exact ⟨k + 1, by omega, by go_num, g_alloc hw _⟩
              case measure => simp [intOf]; omega
            · have hn3 : ¬ k < 123 := h3
              have g2 : (97 : Int) ≤ k := by omega
              have g3 : ¬ (k : Int) ≤ 122 := by omega
              have g4 : (48 : Int) ≤ k := by omega
              have g5 : ¬ (k : Int) ≤ 57 := by omega
              have HB := hid (nb_one_no k hlt (by omega))
              go_wp2_with fail
              refine (c_no _ _ (Nat.le_of_ble_eq_true rfl) HB.out).mono ?_
              rintro e w' ⟨rfl, rfl⟩
              go_wp2
              go_roundw
              case rel => exact ⟨k + 1, by omega, by go_num, g_alloc hw _⟩
              case measure => simp [intOf]; omega
    · have hl : ¬ (k : Int) < 256 := by omega
      go_wp2
      go_loopw [5] (fun i wr => ∃ k : Nat, k ≤ 18 ∧ i = .int .i64 k ∧ Below w.heap.size w wr) (fun i _ => 18 - (intOf i).toNat)
      case atStart => exact ⟨0, by omega, rfl, hw⟩
      case round =>
        obtain ⟨m, hm, rfl, hw2⟩ := hrel
        by_cases hlm : m ≤ 17
        · have l1 : (m : Int) ≤ 17 := by omega
          have l2 : (0 : Int) ≤ m := by omega
          by_cases hg : 0 < m ∧ m < 17
          · have HB := hid (nb_long_yes m hg.1 hg.2)
            have l3 : (0 : Int) < m := by omega
            have l4 : (m : Int) < 17 := by omega
            clear hg
            go_wp2_with fail
            refine (c_yes _ _ ?_ HB.out).mono ?_
            · exact Nat.le_trans (Nat.le_of_eq (ByteArray.size_extract ..)) (Nat.le_trans (Nat.sub_le _ _) (Nat.le_trans (Nat.min_le_right _ _) (by decide)))
            rintro e w' ⟨rfl, rfl⟩
            go_wp2
            go_roundw
            case rel => exact ⟨m + 1, by omega, by go_num, hw2⟩
            case measure => simp [intOf]; omega
          · have HB := hid (nb_long_no m hlm (by omega))
            have l3 : ¬ ((0 : Int) < m ∧ (m : Int) < 17) := by omega
            have HZ : Hid (m = 0 ∨ m = 17) := by unfold Hid; omega
            clear hg l1 l2 l3
            rcases HZ.out with hz | hz
            · subst hz
              clear HZ
              go_wp2_with fail
              refine (c_no _ _ (by decide) HB.out).mono ?_
              rintro e w' ⟨rfl, rfl⟩
              go_wp2
              go_roundw
              case rel => exact ⟨1, by omega, by go_num, hw2⟩
              case measure => simp [intOf]
            · subst hz
              clear HZ
              go_wp2_with fail
              refine (c_no _ _ (by decide) HB.out).mono ?_
              rintro e w' ⟨rfl, rfl⟩
              go_wp2
              go_roundw
              case rel => exact ⟨18, by omega, by go_num, hw2⟩
              case measure => simp [intOf]
        · have l1 : ¬ (m : Int) ≤ 17 := by omega
          go_wp2
          have F1 : Hid (∀ k, k < 14 → ((wr.alloc (.cells #[.string ⟨#[]⟩, .string ⟨#[58]⟩, .string ⟨#[35]⟩, .string ⟨#[97]⟩, .string ⟨#[97, 35, 98]⟩, .string ⟨#[97, 58, 98, 35, 99, 35, 100]⟩, .string ⟨#[97, 58, 98, 35, 99, 58, 100]⟩, .string ⟨#[97, 35, 98, 58, 99, 35, 100]⟩, .string ⟨#[58, 58]⟩, .string ⟨#[97, 58, 35, 98]⟩, .string ⟨#[58, 98]⟩, .string ⟨#[97, 58, 98, 35]⟩, .string ⟨#[65, 58, 98]⟩, .string ⟨#[97, 58, 98, 35, 67]⟩] 9)).alloc (.cells #[.int .i64 5, .int .i64 6, .int .i64 5, .int .i64 5, .int .i64 5, .int .i64 5, .int .i64 5, .int .i64 5, .int .i64 5, .int .i64 6, .int .i64 6, .int .i64 6, .int .i64 6, .int .i64 6] 30)).cell? ⟨wr.heap.size, k, none⟩ = some (.string (fsL.getD k ⟨#[]⟩))) :=
            fun k h => (World.cell?_alloc_lt (wr.alloc (.cells #[.string ⟨#[]⟩, .string ⟨#[58]⟩, .string ⟨#[35]⟩, .string ⟨#[97]⟩, .string ⟨#[97, 35, 98]⟩, .string ⟨#[97, 58, 98, 35, 99, 35, 100]⟩, .string ⟨#[97, 58, 98, 35, 99, 58, 100]⟩, .string ⟨#[97, 35, 98, 58, 99, 35, 100]⟩, .string ⟨#[58, 58]⟩, .string ⟨#[97, 58, 35, 98]⟩, .string ⟨#[58, 98]⟩, .string ⟨#[97, 58, 98, 35]⟩, .string ⟨#[65, 58, 98]⟩, .string ⟨#[97, 58, 98, 35, 67]⟩] 9)) (.cells #[.int .i64 5, .int .i64 6, .int .i64 5, .int .i64 5, .int .i64 5, .int .i64 5, .int .i64 5, .int .i64 5, .int .i64 5, .int .i64 6, .int .i64 6, .int .i64 6, .int .i64 6, .int .i64 6] 30) ⟨wr.heap.size, k, none⟩ (by simp)).trans (fs_cells wr k h)
          have F2 : Hid (∀ k, k < 14 → ((wr.alloc (.cells #[.string ⟨#[]⟩, .string ⟨#[58]⟩, .string ⟨#[35]⟩, .string ⟨#[97]⟩, .string ⟨#[97, 35, 98]⟩, .string ⟨#[97, 58, 98, 35, 99, 35, 100]⟩, .string ⟨#[97, 58, 98, 35, 99, 58, 100]⟩, .string ⟨#[97, 35, 98, 58, 99, 35, 100]⟩, .string ⟨#[58, 58]⟩, .string ⟨#[97, 58, 35, 98]⟩, .string ⟨#[58, 98]⟩, .string ⟨#[97, 58, 98, 35]⟩, .string ⟨#[65, 58, 98]⟩, .string ⟨#[97, 58, 98, 35, 67]⟩] 9)).alloc (.cells #[.int .i64 5, .int .i64 6, .int .i64 5, .int .i64 5, .int .i64 5, .int .i64 5, .int .i64 5, .int .i64 5, .int .i64 5, .int .i64 6, .int .i64 6, .int .i64 6, .int .i64 6, .int .i64 6] 30)).cell? ⟨wr.heap.size + 1, k, none⟩ = some (.int .i64 (wantL.getD k 0))) := fun k h => by
            have q := want_cells (wr.alloc (.cells #[.string ⟨#[]⟩, .string ⟨#[58]⟩, .string ⟨#[35]⟩, .string ⟨#[97]⟩, .string ⟨#[97, 35, 98]⟩, .string ⟨#[97, 58, 98, 35, 99, 35, 100]⟩, .string ⟨#[97, 58, 98, 35, 99, 58, 100]⟩, .string ⟨#[97, 35, 98, 58, 99, 35, 100]⟩, .string ⟨#[58, 58]⟩, .string ⟨#[97, 58, 35, 98]⟩, .string ⟨#[58, 98]⟩, .string ⟨#[97, 58, 98, 35]⟩, .string ⟨#[65, 58, 98]⟩, .string ⟨#[97, 58, 98, 35, 67]⟩] 9)) k h
            rw [show (wr.alloc (.cells #[.string ⟨#[]⟩, .string ⟨#[58]⟩, .string ⟨#[35]⟩, .string ⟨#[97]⟩, .string ⟨#[97, 35, 98]⟩, .string ⟨#[97, 58, 98, 35, 99, 35, 100]⟩, .string ⟨#[97, 58, 98, 35, 99, 58, 100]⟩, .string ⟨#[97, 35, 98, 58, 99, 35, 100]⟩, .string ⟨#[58, 58]⟩, .string ⟨#[97, 58, 35, 98]⟩, .string ⟨#[58, 98]⟩, .string ⟨#[97, 58, 98, 35]⟩, .string ⟨#[65, 58, 98]⟩, .string ⟨#[97, 58, 98, 35, 67]⟩] 9)).heap.size = wr.heap.size + 1 by simp] at q
            exact q
          have F3 : wr.heap.size + 1 < ((wr.alloc (.cells #[.string ⟨#[]⟩, .string ⟨#[58]⟩, .string ⟨#[35]⟩, .string ⟨#[97]⟩, .string ⟨#[97, 35, 98]⟩, .string ⟨#[97, 58, 98, 35, 99, 35, 100]⟩, .string ⟨#[97, 58, 98, 35, 99, 58, 100]⟩, .string ⟨#[97, 35, 98, 58, 99, 35, 100]⟩, .string ⟨#[58, 58]⟩, .string ⟨#[97, 58, 35, 98]⟩, .string ⟨#[58, 98]⟩, .string ⟨#[97, 58, 98, 35]⟩, .string ⟨#[65, 58, 98]⟩, .string ⟨#[97, 58, 98, 35, 67]⟩] 9)).alloc (.cells #[.int .i64 5, .int .i64 6, .int .i64 5, .int .i64 5, .int .i64 5, .int .i64 5, .int .i64 5, .int .i64 5, .int .i64 5, .int .i64 6, .int .i64 6, .int .i64 6, .int .i64 6, .int .i64 6] 30)).heap.size := by simp
          have hB : Below w.heap.size w ((wr.alloc (.cells #[.string ⟨#[]⟩, .string ⟨#[58]⟩, .string ⟨#[35]⟩, .string ⟨#[97]⟩, .string ⟨#[97, 35, 98]⟩, .string ⟨#[97, 58, 98, 35, 99, 35, 100]⟩, .string ⟨#[97, 58, 98, 35, 99, 58, 100]⟩, .string ⟨#[97, 35, 98, 58, 99, 35, 100]⟩, .string ⟨#[58, 58]⟩, .string ⟨#[97, 58, 35, 98]⟩, .string ⟨#[58, 98]⟩, .string ⟨#[97, 58, 98, 35]⟩, .string ⟨#[65, 58, 98]⟩, .string ⟨#[97, 58, 98, 35, 67]⟩] 9)).alloc (.cells #[.int .i64 5, .int .i64 6, .int .i64 5, .int .i64 5, .int .i64 5, .int .i64 5, .int .i64 5, .int .i64 5, .int .i64 5, .int .i64 6, .int .i64 6, .int .i64 6, .int .i64 6, .int .i64 6] 30)) := g_alloc (g_alloc hw2 _) _
          generalize ((wr.alloc (.cells #[.string ⟨#[]⟩, .string ⟨#[58]⟩, .string ⟨#[35]⟩, .string ⟨#[97]⟩, .string ⟨#[97, 35, 98]⟩, .string ⟨#[97, 58, 98, 35, 99, 35, 100]⟩, .string ⟨#[97, 58, 98, 35, 99, 58, 100]⟩, .string ⟨#[97, 35, 98, 58, 99, 35, 100]⟩, .string ⟨#[58, 58]⟩, .string ⟨#[97, 58, 35, 98]⟩, .string ⟨#[58, 98]⟩, .string ⟨#[97, 58, 98, 35]⟩, .string ⟨#[65, 58, 98]⟩, .string ⟨#[97, 58, 98, 35, 67]⟩] 9)).alloc (.cells #[.int .i64 5, .int .i64 6, .int .i64 5, .int .i64 5, .int .i64 5, .int .i64 5, .int .i64 5, .int .i64 5, .int .i64 5, .int .i64 6, .int .i64 6, .int .i64 6, .int .i64 6, .int .i64 6] 30)) = W0 at *
          generalize wr.heap.size = B at *
          clear hw2 l1
          go_loopw [8] (fun i wx => ∃ k : Nat, k ≤ 14 ∧ i = .int .i64 k ∧ Below W0.heap.size W0 wx) (fun i _ => 14 - (intOf i).toNat)
          case atStart => exact ⟨0, by omega, rfl, g_refl⟩
          case round =>
            obtain ⟨n, hn, rfl, hw3⟩ := hrel
            by_cases hln : n < 14
            · have l1 : (n : Int) < 14 := by omega
              have c1 : wr.cell? ⟨B, n, none⟩ = some (.string (fsL.getD n ⟨#[]⟩)) := (own_cells hw3 B (by omega) n).1.trans (F1.out n hln)
              have c2 : wr.cell? ⟨B + 1, n, none⟩ = some (.int .i64 (wantL.getD n 0)) := (own_cells hw3 (B + 1) (by omega) n).1.trans (F2.out n hln)
              have HP := hid (pf_known ⟨n, hln⟩)
              generalize wantL.getD n 0 = v at *
              generalize fsL.getD n ⟨#[]⟩ = s at *
              go_wp2_with fail
              refine (parseSubject_e s v _ HP.out.2 HP.out.1).mono ?_
              rintro e w4 ⟨rfl, hw4⟩
              have c3 : w4.cell? ⟨B + 1, n, none⟩ = some (.int .i64 v) := (own_cells hw4 (B + 1) (Nat.lt_of_lt_of_le F3 hw3.size) n).1.trans c2
              have hz4 : B + 1 < w4.heap.size := Nat.lt_of_lt_of_le F3 (Nat.le_trans hw3.size hw4.size)
              go_wp2
              go_roundw
              case rel => exact ⟨n + 1, by omega, by go_num, g_alloc (g_trans hw3 hw4) _⟩
              case measure => simp [intOf]; omega
            · have l1 : ¬ (n : Int) < 14 := by omega
              go_wp2_with fail
              refine (lives_any _).mono ?_
              rintro e w4 ⟨rfl, hw4⟩
              go_wp2
              go_ret
              exact ⟨rfl, g_trans (g_trans hB hw3) hw4⟩

end Go.Proofs.Ytickinkabcfkbaa
