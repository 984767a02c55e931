/-
  CodecsNil returns true: the walk.
-/
import Derived.Test.YtohnhjmiblgkkaaCGnil
import Derived.Test.YtohnhjmiblgkkaaCPut
import Derived.Deep.LoopGhost
namespace Go.Proofs.Ytohnhjmiblgkkaa
open Go.RowKit

theorem rs0 (w : World) : RS (w.alloc (.cells #[.slice none 0 0, .int .i64 0, .int .i64 0, .int .i64 0] 59)) w.heap.size none [] ⟨0, 0, 0⟩ :=
  ⟨by simp, by simp, by simp, by simp, fun i => by simp, by simp, Byt.nil _ _, fun h => absurd rfl h, ⟨Nat.le_refl _, fun _ => rfl⟩, by decide⟩
theorem nfault_v {r : Nat} {A : Option Addr} {L : List UInt8} {s : St} {w : World} (h : RS w r A L s) (a e : Int) (ha : s.fa = a) (he : s.fe = e) :
    Calls Try.prog 20 #[.pointer (some ⟨r, 0, none⟩)] w fun x w' => x = .returned (.tuple #[.int .i64 a, .int .i64 e]) ∧ Below w.heap.size w w' := by
  have := fault_any r A L s w h; rw [ha, he] at this; exact this
theorem nfailed_v {r : Nat} {A : Option Addr} {L : List UInt8} {s : St} {w : World} (h : RS w r A L s) (b : Bool) (hb : decide (s.fe ≠ 0) = b) :
    Calls Try.prog 21 #[.pointer (some ⟨r, 0, none⟩)] w fun x w' => x = .returned (.bool b) ∧ w' = w := by
  have := failed_any r A L s w h; rw [hb] at this; exact this
theorem cmp_v (w : World) : (binOp BinOp.neq 31 (.agg #[.int .u8 0, .int .u64 0, .string ⟨#[]⟩, .string ⟨#[]⟩, .string ⟨#[]⟩, .string ⟨#[]⟩, .string ⟨#[]⟩, .string ⟨#[]⟩]) (.agg #[.int .u8 0, .int .u64 0, .string ⟨#[]⟩, .string ⟨#[]⟩, .string ⟨#[]⟩, .string ⟨#[]⟩, .string ⟨#[]⟩, .string ⟨#[]⟩])).run Try.prog w = .ok (.bool false) w := by kernel_rfl
theorem nil_num : rnum [] ⟨0, 0, 0⟩ = (0, ⟨0, 0, 17⟩) := by decide +kernel
set_option maxRecDepth 20000 in
set_option maxHeartbeats 8000000 in
theorem nil_walk (K n : Nat) (hn : n < 18446744073709551616) (a b c d e f : ByteArray) (l : Int) (hl : -9223372036854775808 ≤ l ∧ l ≤ 9223372036854775807) (w : World) :
    Calls Try.prog 7 #[.agg #[.int .u8 (K : Int), .int .u64 (n : Int), .string a, .string b, .string c, .string d, .string e, .string f], .int .i64 l] w fun e w' => e = .returned (.bool true) ∧ Below w.heap.size w w' := by
  have HN := hid hn
  have HL := hid hl
  clear hn hl
  have HB := hid (show Below w.heap.size w (((w.alloc (.cells #[.int .u8 (K : Int), .int .u64 (n : Int), .string a, .string b, .string c, .string d, .string e, .string f] 31)).alloc (.cells #[.slice none 0 0, .int .i64 0, .int .i64 0, .int .i64 0] 59)).alloc (.cells #[.slice none 0 0] 27)) from g_alloc (g_alloc (g_alloc g_refl _) _) _)
  have hr : RS (((w.alloc (.cells #[.int .u8 (K : Int), .int .u64 (n : Int), .string a, .string b, .string c, .string d, .string e, .string f] 31)).alloc (.cells #[.slice none 0 0, .int .i64 0, .int .i64 0, .int .i64 0] 59)).alloc (.cells #[.slice none 0 0] 27)) (w.heap.size + 1) none [] ⟨0, 0, 0⟩ := by
    have h := (rs0 (w.alloc (.cells #[.int .u8 (K : Int), .int .u64 (n : Int), .string a, .string b, .string c, .string d, .string e, .string f] 31))).below (g_alloc g_refl (.cells #[.slice none 0 0] 27))
    rwa [show (w.alloc (.cells #[.int .u8 (K : Int), .int .u64 (n : Int), .string a, .string b, .string c, .string d, .string e, .string f] 31)).heap.size = w.heap.size + 1 by simp] at h
  have hw : WS (((w.alloc (.cells #[.int .u8 (K : Int), .int .u64 (n : Int), .string a, .string b, .string c, .string d, .string e, .string f] 31)).alloc (.cells #[.slice none 0 0, .int .i64 0, .int .i64 0, .int .i64 0] 59)).alloc (.cells #[.slice none 0 0] 27)) (w.heap.size + 1 + 1) 0 (.slice none 0 0) [] := by
    have h := ws0 ((w.alloc (.cells #[.int .u8 (K : Int), .int .u64 (n : Int), .string a, .string b, .string c, .string d, .string e, .string f] 31)).alloc (.cells #[.slice none 0 0, .int .i64 0, .int .i64 0, .int .i64 0] 59)) 0
    rwa [show ((w.alloc (.cells #[.int .u8 (K : Int), .int .u64 (n : Int), .string a, .string b, .string c, .string d, .string e, .string f] 31)).alloc (.cells #[.slice none 0 0, .int .i64 0, .int .i64 0, .int .i64 0] 59)).heap.size = w.heap.size + 1 + 1 by simp] at h
  have HR := hid hr
  have HW := hid hw
  clear hr hw
  go_enter Try.func7, Try.ntmps7
  go_wp2_with fail
  refine (vput_any none 0 0 (.slice none 0 0) [] K n HN.out a b c d e f _ ⟨.inl rfl, .inl rfl⟩ (.inl rfl) (.inl rfl) (.inl rfl) (.inl rfl) (.inl rfl) (.inl rfl)).mono ?_
  rintro e x1 ⟨rfl, v1, _, hc⟩
  have hb : Below (((w.alloc (.cells #[.int .u8 (K : Int), .int .u64 (n : Int), .string a, .string b, .string c, .string d, .string e, .string f] 31)).alloc (.cells #[.slice none 0 0, .int .i64 0, .int .i64 0, .int .i64 0] 59)).alloc (.cells #[.slice none 0 0] 27)).heap.size (((w.alloc (.cells #[.int .u8 (K : Int), .int .u64 (n : Int), .string a, .string b, .string c, .string d, .string e, .string f] 31)).alloc (.cells #[.slice none 0 0, .int .i64 0, .int .i64 0, .int .i64 0] 59)).alloc (.cells #[.slice none 0 0] 27)) x1 := by
    rcases hc with ⟨_, h, _⟩ | ⟨r, h, _⟩
    · exact h
    · cases h
  have HR := hid (HR.out.below hb)
  have HW := hid (HW.out.below hb)
  have HB := hid (g_trans HB.out hb)
  clear hc hb
  go_wp2_with fail
  refine (wlen_n x1).mono ?_
  rintro e x2 ⟨rfl, rfl⟩
  go_wp2_with fail
  refine (wbytes_n x2).mono ?_
  rintro e x3 ⟨rfl, rfl⟩
  go_wp2_with fail
  refine (wlen_any _ 0 _ [] x3 HW.out).mono ?_
  rintro e x4 ⟨rfl, rfl⟩
  simp only [List.length_nil]
  go_wp2_with fail
  refine (wbytes_any _ 0 _ [] x4 HW.out (by decide)).mono ?_
  rintro e x5 ⟨B5, rfl, _, _, hb⟩
  simp only [List.length_nil]
  have HR := hid (HR.out.below hb)
  have HB := hid (g_trans HB.out hb)
  clear hb HW
  have HRW0 := hid (Nat.le_add_right w.heap.size 1)
  generalize w.heap.size + 1 = r at *
  go_wp2
  go_loopg [9] 13 (fun m z wx => ∃ j : Nat, m = 13 - j ∧ j ≤ 13 ∧ z = .int .u8 j ∧ Below w.heap.size w wx ∧ RS wx r none [] ⟨0, 0, 0⟩)
  case atStart => exact ⟨0, rfl, by omega, rfl, HB.out, HR.out⟩
  case round =>
    obtain ⟨j, hj, hj3, rfl, hb, hr⟩ := hrel
    have HJ := hid hj
    have HX := hid (And.intro hb hr)
    clear hj hb hr HR HB
    rcases (show j = 0 ∨ j = 1 ∨ j = 2 ∨ j = 3 ∨ j = 4 ∨ j = 5 ∨ j = 6 ∨ j = 7 ∨ j = 8 ∨ j = 9 ∨ j = 10 ∨ j = 11 ∨ j = 12 ∨ j = 13 by omega) with rfl | rfl | rfl | rfl | rfl | rfl | rfl | rfl | rfl | rfl | rfl | rfl | rfl | rfl <;> clear hj3
    · as_aux_lemma =>
      go_wp2_with fail
      refine (gnil_0 l HL.out wr).mono ?_
      rintro e x6 ⟨rfl, hb⟩
      have HY := hid (And.intro (g_trans HX.out.1 hb) (HX.out.2.below hb))
      clear hb
      have hcmp := cmp_v
      go_wp2
      go_roundg (13 - (0 + 1))
      case measure => have := HJ.out; omega
      case rel => exact ⟨0 + 1, rfl, by omega, by go_num, HY.out⟩
    · as_aux_lemma =>
      go_wp2_with fail
      refine (gnil_1 l HL.out wr).mono ?_
      rintro e x6 ⟨rfl, hb⟩
      have HY := hid (And.intro (g_trans HX.out.1 hb) (HX.out.2.below hb))
      clear hb
      have hcmp := cmp_v
      go_wp2
      go_roundg (13 - (1 + 1))
      case measure => have := HJ.out; omega
      case rel => exact ⟨1 + 1, rfl, by omega, by go_num, HY.out⟩
    · as_aux_lemma =>
      go_wp2_with fail
      refine (gnil_2 l HL.out wr).mono ?_
      rintro e x6 ⟨rfl, hb⟩
      have HY := hid (And.intro (g_trans HX.out.1 hb) (HX.out.2.below hb))
      clear hb
      have hcmp := cmp_v
      go_wp2
      go_roundg (13 - (2 + 1))
      case measure => have := HJ.out; omega
      case rel => exact ⟨2 + 1, rfl, by omega, by go_num, HY.out⟩
    · as_aux_lemma =>
      go_wp2_with fail
      refine (gnil_3 l HL.out wr).mono ?_
      rintro e x6 ⟨rfl, hb⟩
      have HY := hid (And.intro (g_trans HX.out.1 hb) (HX.out.2.below hb))
      clear hb
      have hcmp := cmp_v
      go_wp2
      go_roundg (13 - (3 + 1))
      case measure => have := HJ.out; omega
      case rel => exact ⟨3 + 1, rfl, by omega, by go_num, HY.out⟩
    · as_aux_lemma =>
      go_wp2_with fail
      refine (gnil_4 l HL.out wr).mono ?_
      rintro e x6 ⟨rfl, hb⟩
      have HY := hid (And.intro (g_trans HX.out.1 hb) (HX.out.2.below hb))
      clear hb
      have hcmp := cmp_v
      go_wp2
      go_roundg (13 - (4 + 1))
      case measure => have := HJ.out; omega
      case rel => exact ⟨4 + 1, rfl, by omega, by go_num, HY.out⟩
    · as_aux_lemma =>
      go_wp2_with fail
      refine (gnil_5 l HL.out wr).mono ?_
      rintro e x6 ⟨rfl, hb⟩
      have HY := hid (And.intro (g_trans HX.out.1 hb) (HX.out.2.below hb))
      clear hb
      have hcmp := cmp_v
      go_wp2
      go_roundg (13 - (5 + 1))
      case measure => have := HJ.out; omega
      case rel => exact ⟨5 + 1, rfl, by omega, by go_num, HY.out⟩
    · as_aux_lemma =>
      go_wp2_with fail
      refine (gnil_6 l HL.out wr).mono ?_
      rintro e x6 ⟨rfl, hb⟩
      have HY := hid (And.intro (g_trans HX.out.1 hb) (HX.out.2.below hb))
      clear hb
      have hcmp := cmp_v
      go_wp2
      go_roundg (13 - (6 + 1))
      case measure => have := HJ.out; omega
      case rel => exact ⟨6 + 1, rfl, by omega, by go_num, HY.out⟩
    · as_aux_lemma =>
      go_wp2_with fail
      refine (gnil_7 l HL.out wr).mono ?_
      rintro e x6 ⟨rfl, hb⟩
      have HY := hid (And.intro (g_trans HX.out.1 hb) (HX.out.2.below hb))
      clear hb
      have hcmp := cmp_v
      go_wp2
      go_roundg (13 - (7 + 1))
      case measure => have := HJ.out; omega
      case rel => exact ⟨7 + 1, rfl, by omega, by go_num, HY.out⟩
    · as_aux_lemma =>
      go_wp2_with fail
      refine (gnil_8 l HL.out wr).mono ?_
      rintro e x6 ⟨rfl, hb⟩
      have HY := hid (And.intro (g_trans HX.out.1 hb) (HX.out.2.below hb))
      clear hb
      have hcmp := cmp_v
      go_wp2
      go_roundg (13 - (8 + 1))
      case measure => have := HJ.out; omega
      case rel => exact ⟨8 + 1, rfl, by omega, by go_num, HY.out⟩
    · as_aux_lemma =>
      go_wp2_with fail
      refine (gnil_9 l HL.out wr).mono ?_
      rintro e x6 ⟨rfl, hb⟩
      have HY := hid (And.intro (g_trans HX.out.1 hb) (HX.out.2.below hb))
      clear hb
      have hcmp := cmp_v
      go_wp2
      go_roundg (13 - (9 + 1))
      case measure => have := HJ.out; omega
      case rel => exact ⟨9 + 1, rfl, by omega, by go_num, HY.out⟩
    · as_aux_lemma =>
      go_wp2_with fail
      refine (gnil_10 l HL.out wr).mono ?_
      rintro e x6 ⟨rfl, hb⟩
      have HY := hid (And.intro (g_trans HX.out.1 hb) (HX.out.2.below hb))
      clear hb
      have hcmp := cmp_v
      go_wp2
      go_roundg (13 - (10 + 1))
      case measure => have := HJ.out; omega
      case rel => exact ⟨10 + 1, rfl, by omega, by go_num, HY.out⟩
    · as_aux_lemma =>
      go_wp2_with fail
      refine (gnil_11 l HL.out wr).mono ?_
      rintro e x6 ⟨rfl, hb⟩
      have HY := hid (And.intro (g_trans HX.out.1 hb) (HX.out.2.below hb))
      clear hb
      have hcmp := cmp_v
      go_wp2
      go_roundg (13 - (11 + 1))
      case measure => have := HJ.out; omega
      case rel => exact ⟨11 + 1, rfl, by omega, by go_num, HY.out⟩
    · as_aux_lemma =>
      go_wp2_with fail
      refine (gnil_12 l HL.out wr).mono ?_
      rintro e x6 ⟨rfl, hb⟩
      have HY := hid (And.intro (g_trans HX.out.1 hb) (HX.out.2.below hb))
      clear hb
      have hcmp := cmp_v
      go_wp2
      go_roundg (13 - (12 + 1))
      case measure => have := HJ.out; omega
      case rel => exact ⟨12 + 1, rfl, by omega, by go_num, HY.out⟩
    · have HR := hid HX.out.2
      have HB := hid HX.out.1
      go_wp2_with fail
      refine (fault_n wr).mono ?_
      rintro e y1 ⟨rfl, rfl⟩
      go_wp2_with fail
      refine (end_n y1).mono ?_
      rintro e y2 ⟨rfl, rfl⟩
      go_wp2_with fail
      refine (end_v HR.out 0 0 (by decide +kernel)).mono ?_
      rintro e y3 ⟨rfl, hb⟩
      have HR := hid (HR.out.below hb)
      have HB := hid (g_trans HB.out hb)
      clear hb
      go_wp2_with fail
      refine (failed_n y3).mono ?_
      rintro e y4 ⟨rfl, rfl⟩
      go_wp2_with fail
      refine (at_n y4).mono ?_
      rintro e y5 ⟨rfl, rfl⟩
      go_wp2_with fail
      refine (left_n y5).mono ?_
      rintro e y6 ⟨rfl, rfl⟩
      go_wp2_with fail
      refine (nfailed_v HR.out false rfl).mono ?_
      rintro e y7 ⟨rfl, rfl⟩
      go_wp2_with fail
      refine (number_v HR.out nil_num).mono ?_
      rintro e y8 ⟨rfl, hR, hg⟩
      have HB := hid (gb_to_below HB.out hg HRW0.out)
      have HR := hid hR
      clear hR hg
      go_wp2_with fail
      refine (nfault_v HR.out 0 17 rfl rfl).mono ?_
      rintro e y9 ⟨rfl, hb⟩
      have HB := hid (g_trans HB.out hb)
      clear hb
      go_wp2_with fail
      refine (lives_any y9).mono ?_
      rintro e y10 ⟨rfl, hb⟩
      have HB := hid (g_trans HB.out hb)
      clear hb
      go_wp2
      go_ret
      exact ⟨rfl, HB.out⟩
end Go.Proofs.Ytohnhjmiblgkkaa
