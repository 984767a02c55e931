/-
  THE CONTRACTS of strings.Cut at a separator of one byte, and of names.divide.
-/
import Derived.Test.YtgfgfggoofjeeaaWText
import Derived.Test.YtgfgfggoofjeeaaShelf
import Derived.Lib.IndexLaws
import Derived.IntWalk
namespace Go.Proofs.Ytgfgfggoofjeeaa
open Go.RowKit

/-- what lies ahead of the first byte c, what lies behind it, and whether there is one -/
def cutB (s : ByteArray) (c : UInt8) : ByteArray × ByteArray × Bool :=
  if Lib.indexByte s.data.toList c < 0 then (s, ByteArray.empty, false) else (s.extract 0 (Lib.indexByte s.data.toList c).toNat, s.extract ((Lib.indexByte s.data.toList c).toNat + 1) s.size, true)
theorem cutB_no {s : ByteArray} {c : UInt8} (h : Lib.indexByte s.data.toList c < 0) : cutB s c = (s, ByteArray.empty, false) := by unfold cutB; rw [if_pos h]
theorem cutB_yes {s : ByteArray} {c : UInt8} {i : Nat} (h : Lib.indexByte s.data.toList c = i) : cutB s c = (s.extract 0 i, s.extract (i + 1) s.size, true) := by
  unfold cutB; rw [if_neg (by omega), h, Int.toNat_natCast]
theorem index_lt {s : ByteArray} {c : UInt8} {i : Nat} (h : Lib.indexByte s.data.toList c = i) : i < s.size := by
  have := (Lib.indexByte_some h).1
  have h2 := (List.getElem?_eq_some_iff.1 this).1
  simpa using h2
theorem idx (s : ByteArray) (c : UInt8) (i : Int) (w : World) (h : Lib.indexByte s.data.toList c = i) :
    Calls Try.prog 105 #[.string s, .string ⟨#[c]⟩] w fun e w' => e = .returned (.int .i64 i) ∧ w = w' :=
  (Try.stringslite_Index_one s c w).mono fun _ _ q => ⟨by rw [q.1, h], q.2.symm⟩

/-- what a cut leaves -/
def CutRet (s : ByteArray) (c : UInt8) (w : World) (e : Ending) (w' : World) : Prop :=
  e = .returned (.tuple #[.string (cutB s c).1, .string (cutB s c).2.1, .bool (cutB s c).2.2]) ∧ ∃ n, w' = w.drewN n

set_option maxHeartbeats 800000 in
theorem lcut_any (s : ByteArray) (c : UInt8) (w : World) (hs : s.size ≤ maxLen) :
    Calls Try.prog 91 #[.string s, .string ⟨#[c]⟩] w (CutRet s c w) := by
  unfold maxLen at hs
  have hge := Lib.indexByte_ge s.data.toList c
  by_cases h : Lib.indexByte s.data.toList c < 0
  · obtain ⟨i, hi⟩ : ∃ i, Lib.indexByte s.data.toList c = i := ⟨_, rfl⟩
    have hi1 : i < 0 := by omega
    have C := hid (cutB_no h)
    have HI := hid hi; clear hi h hge
    go_enter Try.func91, Try.ntmps91
    go_wp2_with fail
    refine (idx s c i _ HI.out).mono ?_
    rintro e w' ⟨rfl, rfl⟩
    go_wp2
    go_ret3
    exact ⟨by rw [C.out]; rfl, 0, rfl⟩
  · obtain ⟨i, hi⟩ : ∃ i : Nat, Lib.indexByte s.data.toList c = i := ⟨(Lib.indexByte s.data.toList c).toNat, by omega⟩
    have hi1 := index_lt hi
    have C := hid (cutB_yes hi)
    have HI := hid hi; clear hi h hge
    have b1 : (0 : Int) ≤ (i : Int) := by omega
    have b2 : (i : Int) ≤ (s.size : Int) := by omega
    have b3 : (0 : Int) ≤ (i : Int) + 1 := by omega
    have b4 : (i : Int) + 1 ≤ (s.size : Int) := by omega
    have e1 : IntKind.i64.wrap ((i : Int) + 1) = (i : Int) + 1 := IntWalk.i64_in _ (by omega)
    have e2 : ((i : Int) + 1).toNat = i + 1 := by omega
    go_enter Try.func91, Try.ntmps91
    go_wp2_with fail
    refine (idx s c i _ HI.out).mono ?_
    rintro e w' ⟨rfl, rfl⟩
    go_wp2
    go_quiet (fail)
    go_wp2
    go_ret3
    exact ⟨by rw [C.out]; rfl, _, rfl⟩

set_option maxHeartbeats 800000 in
theorem cut_any (s : ByteArray) (c : UInt8) (w : World) (hs : s.size ≤ maxLen) :
    Calls Try.prog 68 #[.string s, .string ⟨#[c]⟩] w (CutRet s c w) := by
  go_enter Try.func68, Try.ntmps68
  go_wp2_with fail
  refine (lcut_any s c _ hs).mono ?_
  rintro e w' ⟨rfl, n, rfl⟩
  go_wp2
  go_ret3
  exact ⟨rfl, n, rfl⟩

theorem drewN_setCell (w : World) (n : Nat) (a : Addr) (v : Value) : (w.drewN n).setCell a v = (w.setCell a v).drewN n := rfl
theorem drewN_alloc (w : World) (n : Nat) (o : Obj) : (w.drewN n).alloc o = (w.alloc o).drewN n := rfl
attribute [local go_sem] drewN_setCell drewN_alloc

/-- what the closure leaves: the field; the captured rest is cut -/
def AheadRet (s : ByteArray) (c : UInt8) (a : Addr) (w : World) (e : Ending) (w' : World) : Prop :=
  e = .returned (.string (cutB s c).1) ∧ ∃ n, w' = (w.setCell a (.string (cutB s c).2.1)).drewN n

set_option maxHeartbeats 800000 in
theorem ahead_any (s : ByteArray) (c : UInt8) (a : Addr) (w : World) (hs : s.size ≤ maxLen) (hc : w.cell? a = some (.string s)) (hf : w.frozen? a = false) :
    Calls Try.prog 115 #[.string ⟨#[c]⟩, .pointer (some a)] w (AheadRet s c a w) := by
  go_enter Try.func115, Try.ntmps115
  go_wp2_with fail
  refine (cut_any s c _ hs).mono ?_
  rintro e w' ⟨rfl, n, rfl⟩
  go_wp2
  go_ret
  exact ⟨rfl, n, rfl⟩

/-- the fields of a text -/
def divF (s : ByteArray) : ByteArray × ByteArray × ByteArray :=
  ((cutB s 58).1, (cutB (cutB s 58).2.1 35).1, (cutB (cutB s 58).2.1 35).2.1)
theorem cutB_size (s : ByteArray) (c : UInt8) : (cutB s c).2.1.size ≤ s.size := by
  unfold cutB; split
  · exact Nat.zero_le _
  · simp [ByteArray.size_extract]

set_option maxHeartbeats 800000 in
theorem divide_any (s : ByteArray) (w : World) (hs : s.size ≤ maxLen) :
    Calls Try.prog 108 #[.string s] w fun e w' => e = .returned (.agg #[.string (divF s).1, .string (divF s).2.1, .string (divF s).2.2]) ∧ Below w.heap.size w w' := by
  have hs2 := Nat.le_trans (cutB_size s 58) hs
  go_enter Try.func108, Try.ntmps108
  go_wp2_with fail
  refine (ahead_any s 58 _ _ hs (by go_simp) (by go_simp)).mono ?_
  rintro e w' ⟨rfl, n, rfl⟩
  go_wp2_with fail
  refine (ahead_any _ 35 _ _ hs2 (by go_simp) (by go_simp)).mono ?_
  rintro e w' ⟨rfl, m, rfl⟩
  go_wp2
  exact bodyPost_ret (v := .agg #[.string (divF s).1, .string (divF s).2.1, .string (divF s).2.2]) (by simp [results, Try.results108, go_sem, divF]) rfl ⟨rfl, g_drewN (g_alloc (g_alloc (g_alloc g_refl _) _) _) _⟩

theorem cnt (s : ByteArray) (c : UInt8) (n : Nat) (w : World) (h : Lib.countByte s.data.toList c = n) :
    Calls Try.prog 93 #[.string s, .string ⟨#[c]⟩] w fun e w' => e = .returned (.int .i64 n) ∧ w = w' :=
  (Try.strings_Count_one s c w).mono fun _ _ q => ⟨by rw [q.1, h], q.2.symm⟩
theorem has (s : ByteArray) (c : UInt8) (b : Bool) (w : World) (h : decide (0 ≤ Lib.indexByte s.data.toList c) = b) :
    Calls Try.prog 69 #[.string s, .string ⟨#[c]⟩] w fun e w' => e = .returned (.bool b) ∧ w = w' :=
  (Try.strings_Contains_one s c w).mono fun _ _ q => ⟨by rw [q.1, h], q.2.symm⟩

end Go.Proofs.Ytgfgfggoofjeeaa
