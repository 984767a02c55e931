/-
  THE CONTRACT of the reference's Takes.
-/
import Derived.Test.YtgfgfggoofjeeaaFChk
import Derived.Test.YtgfgfggoofjeeaaTSome
import Derived.Test.YtgfgfggoofjeeaaTCel
namespace Go.Proofs.Ytgfgfggoofjeeaa
open Go.RowKit Go.Sort

def takesI (f : Fil) (t : Tup) : Int := if takes f t then 1 else 0
theorem okF_cases (u v : ByteArray) : u.toList.isEmpty = true ∨ (u.toList.isEmpty = false ∧ u = v) ∨ (u.toList.isEmpty = false ∧ (u.toList == v.toList) = false ∧ ¬ u = v) := by
  cases h : u.toList.isEmpty
  · by_cases e : u = v
    · exact .inr (.inl ⟨rfl, e⟩)
    · exact .inr (.inr ⟨rfl, toList_ne e, e⟩)
  · exact .inl rfl
theorem sub_cases (d e f d' e' f' : ByteArray) : (d = d' ∧ e = e' ∧ f = f') ∨ ((d.toList == d'.toList) = false ∧ ¬ d = d') ∨ (d = d' ∧ (e.toList == e'.toList) = false ∧ ¬ e = e') ∨ (d = d' ∧ e = e' ∧ (f.toList == f'.toList) = false ∧ ¬ f = f') := by
  by_cases h1 : d = d'
  · by_cases h2 : e = e'
    · by_cases h3 : f = f'
      · exact .inl ⟨h1, h2, h3⟩
      · exact .inr (.inr (.inr ⟨h1, h2, toList_ne h3, h3⟩))
    · exact .inr (.inr (.inl ⟨h1, toList_ne h2, h2⟩))
  · exact .inr (.inl ⟨toList_ne h1, h1⟩)
theorem okF_e {u v : ByteArray} (h : u.toList.isEmpty = true) : okF u v = true := by unfold okF; rw [h]; rfl
theorem okF_s (u : ByteArray) : okF u u = true := by unfold okF; simp
theorem okF_n {u v : ByteArray} (h : u.toList.isEmpty = false) (k : ¬ u = v) : okF u v = false := by unfold okF; rw [h]; simp [k]
theorem tk_a {f : Fil} {t : Tup} (h : okF f.a t.a = false) : takes f t = false := by unfold takes; rw [h]; simp
theorem tk_b {f : Fil} {t : Tup} (h : okF f.b t.b = false) : takes f t = false := by unfold takes; rw [h]; simp
theorem tk_c {f : Fil} {t : Tup} (h : okF f.c t.c = false) : takes f t = false := by unfold takes; rw [h]; simp
theorem tk_all {f : Fil} {t : Tup} {u : Bool} (ha : okF f.a t.a = true) (hb : okF f.b t.b = true) (hc : okF f.c t.c = true) (hu : (!f.x || decide (f.d = t.d ∧ f.e = t.e ∧ f.f = t.f)) = u) : takes f t = u := by unfold takes; rw [ha, hb, hc, hu]; rfl
theorem tI {f : Fil} {t : Tup} {u : Bool} (h : takes f t = u) : takesI f t = if u then 1 else 0 := by unfold takesI; rw [h]

set_option maxRecDepth 20000 in
set_option maxHeartbeats 8000000 in
theorem rtakes_false (a b c d e f ta tb tc td te tf : ByteArray) (w : World) :
    Calls Try.prog 10 #[.agg #[.string a, .string b, .string c, .string d, .string e, .string f, .bool false], .agg #[.string ta, .string tb, .string tc, .string td, .string te, .string tf]] w fun r w' => r = .returned (.int .i64 (takesI ⟨a, b, c, d, e, f, false⟩ ⟨ta, tb, tc, td, te, tf⟩)) ∧ Grew w w' := by
  rcases okF_cases a ta with ea | ⟨ea, rfl⟩ | ⟨ea, q, nq⟩
  · rcases okF_cases b tb with eb | ⟨eb, rfl⟩ | ⟨eb, q, nq⟩
    · rcases okF_cases c tc with ec | ⟨ec, rfl⟩ | ⟨ec, q, nq⟩
      · have HK := hid (tI (tk_all (u := true) (f := ⟨a, b, c, d, e, f, false⟩) (t := ⟨ta, tb, tc, td, te, tf⟩) (okF_e ea) (okF_e eb) (okF_e ec) rfl))
        go_enter Try.func10, Try.ntmps10
        go_wp2
        go_ret
        exact ⟨ret_int HK.out.symm, gw_alloc (gw_alloc gw_refl _) _⟩
      · have HK := hid (tI (tk_all (u := true) (f := ⟨a, b, c, d, e, f, false⟩) (t := ⟨ta, tb, c, td, te, tf⟩) (okF_e ea) (okF_e eb) (okF_s c) rfl))
        go_enter Try.func10, Try.ntmps10
        go_wp2
        go_ret
        exact ⟨ret_int HK.out.symm, gw_alloc (gw_alloc gw_refl _) _⟩
      · have HK := hid (tI (tk_c (f := ⟨a, b, c, d, e, f, false⟩) (t := ⟨ta, tb, tc, td, te, tf⟩) (okF_n ec nq)))
        clear nq
        go_enter Try.func10, Try.ntmps10
        go_wp2
        go_ret
        exact ⟨ret_int HK.out.symm, gw_alloc (gw_alloc gw_refl _) _⟩
    · rcases okF_cases c tc with ec | ⟨ec, rfl⟩ | ⟨ec, q, nq⟩
      · have HK := hid (tI (tk_all (u := true) (f := ⟨a, b, c, d, e, f, false⟩) (t := ⟨ta, b, tc, td, te, tf⟩) (okF_e ea) (okF_s b) (okF_e ec) rfl))
        go_enter Try.func10, Try.ntmps10
        go_wp2
        go_ret
        exact ⟨ret_int HK.out.symm, gw_alloc (gw_alloc gw_refl _) _⟩
      · have HK := hid (tI (tk_all (u := true) (f := ⟨a, b, c, d, e, f, false⟩) (t := ⟨ta, b, c, td, te, tf⟩) (okF_e ea) (okF_s b) (okF_s c) rfl))
        go_enter Try.func10, Try.ntmps10
        go_wp2
        go_ret
        exact ⟨ret_int HK.out.symm, gw_alloc (gw_alloc gw_refl _) _⟩
      · have HK := hid (tI (tk_c (f := ⟨a, b, c, d, e, f, false⟩) (t := ⟨ta, b, tc, td, te, tf⟩) (okF_n ec nq)))
        clear nq
        go_enter Try.func10, Try.ntmps10
        go_wp2
        go_ret
        exact ⟨ret_int HK.out.symm, gw_alloc (gw_alloc gw_refl _) _⟩
    · have HK := hid (tI (tk_b (f := ⟨a, b, c, d, e, f, false⟩) (t := ⟨ta, tb, tc, td, te, tf⟩) (okF_n eb nq)))
      clear nq
      go_enter Try.func10, Try.ntmps10
      go_wp2
      go_ret
      exact ⟨ret_int HK.out.symm, gw_alloc (gw_alloc gw_refl _) _⟩
  · rcases okF_cases b tb with eb | ⟨eb, rfl⟩ | ⟨eb, q, nq⟩
    · rcases okF_cases c tc with ec | ⟨ec, rfl⟩ | ⟨ec, q, nq⟩
      · have HK := hid (tI (tk_all (u := true) (f := ⟨a, b, c, d, e, f, false⟩) (t := ⟨a, tb, tc, td, te, tf⟩) (okF_s a) (okF_e eb) (okF_e ec) rfl))
        go_enter Try.func10, Try.ntmps10
        go_wp2
        go_ret
        exact ⟨ret_int HK.out.symm, gw_alloc (gw_alloc gw_refl _) _⟩
      · have HK := hid (tI (tk_all (u := true) (f := ⟨a, b, c, d, e, f, false⟩) (t := ⟨a, tb, c, td, te, tf⟩) (okF_s a) (okF_e eb) (okF_s c) rfl))
        go_enter Try.func10, Try.ntmps10
        go_wp2
        go_ret
        exact ⟨ret_int HK.out.symm, gw_alloc (gw_alloc gw_refl _) _⟩
      · have HK := hid (tI (tk_c (f := ⟨a, b, c, d, e, f, false⟩) (t := ⟨a, tb, tc, td, te, tf⟩) (okF_n ec nq)))
        clear nq
        go_enter Try.func10, Try.ntmps10
        go_wp2
        go_ret
        exact ⟨ret_int HK.out.symm, gw_alloc (gw_alloc gw_refl _) _⟩
    · rcases okF_cases c tc with ec | ⟨ec, rfl⟩ | ⟨ec, q, nq⟩
      · have HK := hid (tI (tk_all (u := true) (f := ⟨a, b, c, d, e, f, false⟩) (t := ⟨a, b, tc, td, te, tf⟩) (okF_s a) (okF_s b) (okF_e ec) rfl))
        go_enter Try.func10, Try.ntmps10
        go_wp2
        go_ret
        exact ⟨ret_int HK.out.symm, gw_alloc (gw_alloc gw_refl _) _⟩
      · have HK := hid (tI (tk_all (u := true) (f := ⟨a, b, c, d, e, f, false⟩) (t := ⟨a, b, c, td, te, tf⟩) (okF_s a) (okF_s b) (okF_s c) rfl))
        go_enter Try.func10, Try.ntmps10
        go_wp2
        go_ret
        exact ⟨ret_int HK.out.symm, gw_alloc (gw_alloc gw_refl _) _⟩
      · have HK := hid (tI (tk_c (f := ⟨a, b, c, d, e, f, false⟩) (t := ⟨a, b, tc, td, te, tf⟩) (okF_n ec nq)))
        clear nq
        go_enter Try.func10, Try.ntmps10
        go_wp2
        go_ret
        exact ⟨ret_int HK.out.symm, gw_alloc (gw_alloc gw_refl _) _⟩
    · have HK := hid (tI (tk_b (f := ⟨a, b, c, d, e, f, false⟩) (t := ⟨a, tb, tc, td, te, tf⟩) (okF_n eb nq)))
      clear nq
      go_enter Try.func10, Try.ntmps10
      go_wp2
      go_ret
      exact ⟨ret_int HK.out.symm, gw_alloc (gw_alloc gw_refl _) _⟩
  · have HK := hid (tI (tk_a (f := ⟨a, b, c, d, e, f, false⟩) (t := ⟨ta, tb, tc, td, te, tf⟩) (okF_n ea nq)))
    clear nq
    go_enter Try.func10, Try.ntmps10
    go_wp2
    go_ret
    exact ⟨ret_int HK.out.symm, gw_alloc (gw_alloc gw_refl _) _⟩
set_option maxRecDepth 20000 in
set_option maxHeartbeats 8000000 in
theorem rtakes_true (a b c d e f ta tb tc td te tf : ByteArray) (w : World) :
    Calls Try.prog 10 #[.agg #[.string a, .string b, .string c, .string d, .string e, .string f, .bool true], .agg #[.string ta, .string tb, .string tc, .string td, .string te, .string tf]] w fun r w' => r = .returned (.int .i64 (takesI ⟨a, b, c, d, e, f, true⟩ ⟨ta, tb, tc, td, te, tf⟩)) ∧ Grew w w' := by
  rcases okF_cases a ta with ea | ⟨ea, rfl⟩ | ⟨ea, q, nq⟩
  · rcases okF_cases b tb with eb | ⟨eb, rfl⟩ | ⟨eb, q, nq⟩
    · rcases okF_cases c tc with ec | ⟨ec, rfl⟩ | ⟨ec, q, nq⟩
      · rcases sub_cases d e f td te tf with ⟨rfl, rfl, rfl⟩ | ⟨q, nq⟩ | ⟨rfl, q, nq⟩ | ⟨rfl, rfl, q, nq⟩
        · have HK := hid (tI (tk_all (u := true) (f := ⟨a, b, c, d, e, f, true⟩) (t := ⟨ta, tb, tc, d, e, f⟩) (okF_e ea) (okF_e eb) (okF_e ec) (by simp)))
          go_enter Try.func10, Try.ntmps10
          go_wp2
          go_ret
          exact ⟨ret_int HK.out.symm, gw_alloc (gw_alloc gw_refl _) _⟩
        · have HK := hid (tI (tk_all (u := false) (f := ⟨a, b, c, d, e, f, true⟩) (t := ⟨ta, tb, tc, td, te, tf⟩) (okF_e ea) (okF_e eb) (okF_e ec) (by simp [nq])))
          clear nq
          go_enter Try.func10, Try.ntmps10
          go_wp2
          go_ret
          exact ⟨ret_int HK.out.symm, gw_alloc (gw_alloc gw_refl _) _⟩
        · have HK := hid (tI (tk_all (u := false) (f := ⟨a, b, c, d, e, f, true⟩) (t := ⟨ta, tb, tc, d, te, tf⟩) (okF_e ea) (okF_e eb) (okF_e ec) (by simp [nq])))
          clear nq
          go_enter Try.func10, Try.ntmps10
          go_wp2
          go_ret
          exact ⟨ret_int HK.out.symm, gw_alloc (gw_alloc gw_refl _) _⟩
        · have HK := hid (tI (tk_all (u := false) (f := ⟨a, b, c, d, e, f, true⟩) (t := ⟨ta, tb, tc, d, e, tf⟩) (okF_e ea) (okF_e eb) (okF_e ec) (by simp [nq])))
          clear nq
          go_enter Try.func10, Try.ntmps10
          go_wp2
          go_ret
          exact ⟨ret_int HK.out.symm, gw_alloc (gw_alloc gw_refl _) _⟩
      · rcases sub_cases d e f td te tf with ⟨rfl, rfl, rfl⟩ | ⟨q, nq⟩ | ⟨rfl, q, nq⟩ | ⟨rfl, rfl, q, nq⟩
        · have HK := hid (tI (tk_all (u := true) (f := ⟨a, b, c, d, e, f, true⟩) (t := ⟨ta, tb, c, d, e, f⟩) (okF_e ea) (okF_e eb) (okF_s c) (by simp)))
          go_enter Try.func10, Try.ntmps10
          go_wp2
          go_ret
          exact ⟨ret_int HK.out.symm, gw_alloc (gw_alloc gw_refl _) _⟩
        · have HK := hid (tI (tk_all (u := false) (f := ⟨a, b, c, d, e, f, true⟩) (t := ⟨ta, tb, c, td, te, tf⟩) (okF_e ea) (okF_e eb) (okF_s c) (by simp [nq])))
          clear nq
          go_enter Try.func10, Try.ntmps10
          go_wp2
          go_ret
          exact ⟨ret_int HK.out.symm, gw_alloc (gw_alloc gw_refl _) _⟩
        · have HK := hid (tI (tk_all (u := false) (f := ⟨a, b, c, d, e, f, true⟩) (t := ⟨ta, tb, c, d, te, tf⟩) (okF_e ea) (okF_e eb) (okF_s c) (by simp [nq])))
          clear nq
          go_enter Try.func10, Try.ntmps10
          go_wp2
          go_ret
          exact ⟨ret_int HK.out.symm, gw_alloc (gw_alloc gw_refl _) _⟩
        · have HK := hid (tI (tk_all (u := false) (f := ⟨a, b, c, d, e, f, true⟩) (t := ⟨ta, tb, c, d, e, tf⟩) (okF_e ea) (okF_e eb) (okF_s c) (by simp [nq])))
          clear nq
          go_enter Try.func10, Try.ntmps10
          go_wp2
          go_ret
          exact ⟨ret_int HK.out.symm, gw_alloc (gw_alloc gw_refl _) _⟩
      · have HK := hid (tI (tk_c (f := ⟨a, b, c, d, e, f, true⟩) (t := ⟨ta, tb, tc, td, te, tf⟩) (okF_n ec nq)))
        clear nq
        go_enter Try.func10, Try.ntmps10
        go_wp2
        go_ret
        exact ⟨ret_int HK.out.symm, gw_alloc (gw_alloc gw_refl _) _⟩
    · rcases okF_cases c tc with ec | ⟨ec, rfl⟩ | ⟨ec, q, nq⟩
      · rcases sub_cases d e f td te tf with ⟨rfl, rfl, rfl⟩ | ⟨q, nq⟩ | ⟨rfl, q, nq⟩ | ⟨rfl, rfl, q, nq⟩
        · have HK := hid (tI (tk_all (u := true) (f := ⟨a, b, c, d, e, f, true⟩) (t := ⟨ta, b, tc, d, e, f⟩) (okF_e ea) (okF_s b) (okF_e ec) (by simp)))
          go_enter Try.func10, Try.ntmps10
          go_wp2
          go_ret
          exact ⟨ret_int HK.out.symm, gw_alloc (gw_alloc gw_refl _) _⟩
        · have HK := hid (tI (tk_all (u := false) (f := ⟨a, b, c, d, e, f, true⟩) (t := ⟨ta, b, tc, td, te, tf⟩) (okF_e ea) (okF_s b) (okF_e ec) (by simp [nq])))
          clear nq
          go_enter Try.func10, Try.ntmps10
          go_wp2
          go_ret
          exact ⟨ret_int HK.out.symm, gw_alloc (gw_alloc gw_refl _) _⟩
        · have HK := hid (tI (tk_all (u := false) (f := ⟨a, b, c, d, e, f, true⟩) (t := ⟨ta, b, tc, d, te, tf⟩) (okF_e ea) (okF_s b) (okF_e ec) (by simp [nq])))
          clear nq
          go_enter Try.func10, Try.ntmps10
          go_wp2
          go_ret
          exact ⟨ret_int HK.out.symm, gw_alloc (gw_alloc gw_refl _) _⟩
        · have HK := hid (tI (tk_all (u := false) (f := ⟨a, b, c, d, e, f, true⟩) (t := ⟨ta, b, tc, d, e, tf⟩) (okF_e ea) (okF_s b) (okF_e ec) (by simp [nq])))
          clear nq
          go_enter Try.func10, Try.ntmps10
          go_wp2
          go_ret
          exact ⟨ret_int HK.out.symm, gw_alloc (gw_alloc gw_refl _) _⟩
      · rcases sub_cases d e f td te tf with ⟨rfl, rfl, rfl⟩ | ⟨q, nq⟩ | ⟨rfl, q, nq⟩ | ⟨rfl, rfl, q, nq⟩
        · have HK := hid (tI (tk_all (u := true) (f := ⟨a, b, c, d, e, f, true⟩) (t := ⟨ta, b, c, d, e, f⟩) (okF_e ea) (okF_s b) (okF_s c) (by simp)))
          go_enter Try.func10, Try.ntmps10
          go_wp2
          go_ret
          exact ⟨ret_int HK.out.symm, gw_alloc (gw_alloc gw_refl _) _⟩
        · have HK := hid (tI (tk_all (u := false) (f := ⟨a, b, c, d, e, f, true⟩) (t := ⟨ta, b, c, td, te, tf⟩) (okF_e ea) (okF_s b) (okF_s c) (by simp [nq])))
          clear nq
          go_enter Try.func10, Try.ntmps10
          go_wp2
          go_ret
          exact ⟨ret_int HK.out.symm, gw_alloc (gw_alloc gw_refl _) _⟩
        · have HK := hid (tI (tk_all (u := false) (f := ⟨a, b, c, d, e, f, true⟩) (t := ⟨ta, b, c, d, te, tf⟩) (okF_e ea) (okF_s b) (okF_s c) (by simp [nq])))
          clear nq
          go_enter Try.func10, Try.ntmps10
          go_wp2
          go_ret
          exact ⟨ret_int HK.out.symm, gw_alloc (gw_alloc gw_refl _) _⟩
        · have HK := hid (tI (tk_all (u := false) (f := ⟨a, b, c, d, e, f, true⟩) (t := ⟨ta, b, c, d, e, tf⟩) (okF_e ea) (okF_s b) (okF_s c) (by simp [nq])))
          clear nq
          go_enter Try.func10, Try.ntmps10
          go_wp2
          go_ret
          exact ⟨ret_int HK.out.symm, gw_alloc (gw_alloc gw_refl _) _⟩
      · have HK := hid (tI (tk_c (f := ⟨a, b, c, d, e, f, true⟩) (t := ⟨ta, b, tc, td, te, tf⟩) (okF_n ec nq)))
        clear nq
        go_enter Try.func10, Try.ntmps10
        go_wp2
        go_ret
        exact ⟨ret_int HK.out.symm, gw_alloc (gw_alloc gw_refl _) _⟩
    · have HK := hid (tI (tk_b (f := ⟨a, b, c, d, e, f, true⟩) (t := ⟨ta, tb, tc, td, te, tf⟩) (okF_n eb nq)))
      clear nq
      go_enter Try.func10, Try.ntmps10
      go_wp2
      go_ret
      exact ⟨ret_int HK.out.symm, gw_alloc (gw_alloc gw_refl _) _⟩
  · rcases okF_cases b tb with eb | ⟨eb, rfl⟩ | ⟨eb, q, nq⟩
    · rcases okF_cases c tc with ec | ⟨ec, rfl⟩ | ⟨ec, q, nq⟩
      · rcases sub_cases d e f td te tf with ⟨rfl, rfl, rfl⟩ | ⟨q, nq⟩ | ⟨rfl, q, nq⟩ | ⟨rfl, rfl, q, nq⟩
        · have HK := hid (tI (tk_all (u := true) (f := ⟨a, b, c, d, e, f, true⟩) (t := ⟨a, tb, tc, d, e, f⟩) (okF_s a) (okF_e eb) (okF_e ec) (by simp)))
          go_enter Try.func10, Try.ntmps10
          go_wp2
          go_ret
          exact ⟨ret_int HK.out.symm, gw_alloc (gw_alloc gw_refl _) _⟩
        · have HK := hid (tI (tk_all (u := false) (f := ⟨a, b, c, d, e, f, true⟩) (t := ⟨a, tb, tc, td, te, tf⟩) (okF_s a) (okF_e eb) (okF_e ec) (by simp [nq])))
          clear nq
          go_enter Try.func10, Try.ntmps10
          go_wp2
          go_ret
          exact ⟨ret_int HK.out.symm, gw_alloc (gw_alloc gw_refl _) _⟩
        · have HK := hid (tI (tk_all (u := false) (f := ⟨a, b, c, d, e, f, true⟩) (t := ⟨a, tb, tc, d, te, tf⟩) (okF_s a) (okF_e eb) (okF_e ec) (by simp [nq])))
          clear nq
          go_enter Try.func10, Try.ntmps10
          go_wp2
          go_ret
          exact ⟨ret_int HK.out.symm, gw_alloc (gw_alloc gw_refl _) _⟩
        · have HK := hid (tI (tk_all (u := false) (f := ⟨a, b, c, d, e, f, true⟩) (t := ⟨a, tb, tc, d, e, tf⟩) (okF_s a) (okF_e eb) (okF_e ec) (by simp [nq])))
          clear nq
          go_enter Try.func10, Try.ntmps10
          go_wp2
          go_ret
          exact ⟨ret_int HK.out.symm, gw_alloc (gw_alloc gw_refl _) _⟩
      · rcases sub_cases d e f td te tf with ⟨rfl, rfl, rfl⟩ | ⟨q, nq⟩ | ⟨rfl, q, nq⟩ | ⟨rfl, rfl, q, nq⟩
        · have HK := hid (tI (tk_all (u := true) (f := ⟨a, b, c, d, e, f, true⟩) (t := ⟨a, tb, c, d, e, f⟩) (okF_s a) (okF_e eb) (okF_s c) (by simp)))
          go_enter Try.func10, Try.ntmps10
          go_wp2
          go_ret
          exact ⟨ret_int HK.out.symm, gw_alloc (gw_alloc gw_refl _) _⟩
        · have HK := hid (tI (tk_all (u := false) (f := ⟨a, b, c, d, e, f, true⟩) (t := ⟨a, tb, c, td, te, tf⟩) (okF_s a) (okF_e eb) (okF_s c) (by simp [nq])))
          clear nq
          go_enter Try.func10, Try.ntmps10
          go_wp2
          go_ret
          exact ⟨ret_int HK.out.symm, gw_alloc (gw_alloc gw_refl _) _⟩
        · have HK := hid (tI (tk_all (u := false) (f := ⟨a, b, c, d, e, f, true⟩) (t := ⟨a, tb, c, d, te, tf⟩) (okF_s a) (okF_e eb) (okF_s c) (by simp [nq])))
          clear nq
          go_enter Try.func10, Try.ntmps10
          go_wp2
          go_ret
          exact ⟨ret_int HK.out.symm, gw_alloc (gw_alloc gw_refl _) _⟩
        · have HK := hid (tI (tk_all (u := false) (f := ⟨a, b, c, d, e, f, true⟩) (t := ⟨a, tb, c, d, e, tf⟩) (okF_s a) (okF_e eb) (okF_s c) (by simp [nq])))
          clear nq
          go_enter Try.func10, Try.ntmps10
          go_wp2
          go_ret
          exact ⟨ret_int HK.out.symm, gw_alloc (gw_alloc gw_refl _) _⟩
      · have HK := hid (tI (tk_c (f := ⟨a, b, c, d, e, f, true⟩) (t := ⟨a, tb, tc, td, te, tf⟩) (okF_n ec nq)))
        clear nq
        go_enter Try.func10, Try.ntmps10
        go_wp2
        go_ret
        exact ⟨ret_int HK.out.symm, gw_alloc (gw_alloc gw_refl _) _⟩
    · rcases okF_cases c tc with ec | ⟨ec, rfl⟩ | ⟨ec, q, nq⟩
      · rcases sub_cases d e f td te tf with ⟨rfl, rfl, rfl⟩ | ⟨q, nq⟩ | ⟨rfl, q, nq⟩ | ⟨rfl, rfl, q, nq⟩
        · have HK := hid (tI (tk_all (u := true) (f := ⟨a, b, c, d, e, f, true⟩) (t := ⟨a, b, tc, d, e, f⟩) (okF_s a) (okF_s b) (okF_e ec) (by simp)))
          go_enter Try.func10, Try.ntmps10
          go_wp2
          go_ret
          exact ⟨ret_int HK.out.symm, gw_alloc (gw_alloc gw_refl _) _⟩
        · have HK := hid (tI (tk_all (u := false) (f := ⟨a, b, c, d, e, f, true⟩) (t := ⟨a, b, tc, td, te, tf⟩) (okF_s a) (okF_s b) (okF_e ec) (by simp [nq])))
          clear nq
          go_enter Try.func10, Try.ntmps10
          go_wp2
          go_ret
          exact ⟨ret_int HK.out.symm, gw_alloc (gw_alloc gw_refl _) _⟩
        · have HK := hid (tI (tk_all (u := false) (f := ⟨a, b, c, d, e, f, true⟩) (t := ⟨a, b, tc, d, te, tf⟩) (okF_s a) (okF_s b) (okF_e ec) (by simp [nq])))
          clear nq
          go_enter Try.func10, Try.ntmps10
          go_wp2
          go_ret
          exact ⟨ret_int HK.out.symm, gw_alloc (gw_alloc gw_refl _) _⟩
        · have HK := hid (tI (tk_all (u := false) (f := ⟨a, b, c, d, e, f, true⟩) (t := ⟨a, b, tc, d, e, tf⟩) (okF_s a) (okF_s b) (okF_e ec) (by simp [nq])))
          clear nq
          go_enter Try.func10, Try.ntmps10
          go_wp2
          go_ret
          exact ⟨ret_int HK.out.symm, gw_alloc (gw_alloc gw_refl _) _⟩
      · rcases sub_cases d e f td te tf with ⟨rfl, rfl, rfl⟩ | ⟨q, nq⟩ | ⟨rfl, q, nq⟩ | ⟨rfl, rfl, q, nq⟩
        · have HK := hid (tI (tk_all (u := true) (f := ⟨a, b, c, d, e, f, true⟩) (t := ⟨a, b, c, d, e, f⟩) (okF_s a) (okF_s b) (okF_s c) (by simp)))
          go_enter Try.func10, Try.ntmps10
          go_wp2
          go_ret
          exact ⟨ret_int HK.out.symm, gw_alloc (gw_alloc gw_refl _) _⟩
        · have HK := hid (tI (tk_all (u := false) (f := ⟨a, b, c, d, e, f, true⟩) (t := ⟨a, b, c, td, te, tf⟩) (okF_s a) (okF_s b) (okF_s c) (by simp [nq])))
          clear nq
          go_enter Try.func10, Try.ntmps10
          go_wp2
          go_ret
          exact ⟨ret_int HK.out.symm, gw_alloc (gw_alloc gw_refl _) _⟩
        · have HK := hid (tI (tk_all (u := false) (f := ⟨a, b, c, d, e, f, true⟩) (t := ⟨a, b, c, d, te, tf⟩) (okF_s a) (okF_s b) (okF_s c) (by simp [nq])))
          clear nq
          go_enter Try.func10, Try.ntmps10
          go_wp2
          go_ret
          exact ⟨ret_int HK.out.symm, gw_alloc (gw_alloc gw_refl _) _⟩
        · have HK := hid (tI (tk_all (u := false) (f := ⟨a, b, c, d, e, f, true⟩) (t := ⟨a, b, c, d, e, tf⟩) (okF_s a) (okF_s b) (okF_s c) (by simp [nq])))
          clear nq
          go_enter Try.func10, Try.ntmps10
          go_wp2
          go_ret
          exact ⟨ret_int HK.out.symm, gw_alloc (gw_alloc gw_refl _) _⟩
      · have HK := hid (tI (tk_c (f := ⟨a, b, c, d, e, f, true⟩) (t := ⟨a, b, tc, td, te, tf⟩) (okF_n ec nq)))
        clear nq
        go_enter Try.func10, Try.ntmps10
        go_wp2
        go_ret
        exact ⟨ret_int HK.out.symm, gw_alloc (gw_alloc gw_refl _) _⟩
    · have HK := hid (tI (tk_b (f := ⟨a, b, c, d, e, f, true⟩) (t := ⟨a, tb, tc, td, te, tf⟩) (okF_n eb nq)))
      clear nq
      go_enter Try.func10, Try.ntmps10
      go_wp2
      go_ret
      exact ⟨ret_int HK.out.symm, gw_alloc (gw_alloc gw_refl _) _⟩
  · have HK := hid (tI (tk_a (f := ⟨a, b, c, d, e, f, true⟩) (t := ⟨ta, tb, tc, td, te, tf⟩) (okF_n ea nq)))
    clear nq
    go_enter Try.func10, Try.ntmps10
    go_wp2
    go_ret
    exact ⟨ret_int HK.out.symm, gw_alloc (gw_alloc gw_refl _) _⟩
theorem rtakes (f : Fil) (t : Tup) (w : World) :
    Calls Try.prog 10 #[valF f, val t] w fun r w' => r = .returned (.int .i64 (takesI f t)) ∧ Grew w w' := by
  obtain ⟨a, b, c, d, e, f, x⟩ := f
  obtain ⟨ta, tb, tc, td, te, tf⟩ := t
  cases x
  · exact rtakes_false a b c d e f ta tb tc td te tf w
  · exact rtakes_true a b c d e f ta tb tc td te tf w

end Go.Proofs.Ytgfgfggoofjeeaa
