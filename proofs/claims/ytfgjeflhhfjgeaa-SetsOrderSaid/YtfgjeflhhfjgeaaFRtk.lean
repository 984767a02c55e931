/-
  THE CONTRACT of the reference's Takes.
-/
import Derived.Test.YtfgjeflhhfjgeaaFChk
import Derived.Test.YtfgjeflhhfjgeaaTSome
import Derived.Test.YtfgjeflhhfjgeaaTCel
namespace Go.Proofs.Ytfgjeflhhfjgeaa
open Go.RowKit Go.Sort

def takesI (f : Fil) (t : Tup) : Int := if takes f t then 1 else 0
theorem okF_cases (u v : ByteArray) : u.toList.isEmpty = true ∨ (u.toList.isEmpty = false ∧ u = v) ∨ (u.toList.isEmpty = false ∧ (u.toList == v.toList) = false ∧ ¬ u = v) := by
  cases h : u.toList.isEmpty
  · by_cases e : u = v
    · exact .inr (.inl ⟨rfl, e⟩)
    · exact .inr (.inr ⟨rfl, toList_ne e, e⟩)
  · exact .inl rfl
theorem sub_cases (d e f d' e' f' : ByteArray) : (d = d' ∧ e = e' ∧ f = f') ∨ ((d.toList == d'.toList) = false ∧ ¬ d = d') ∨ (d = d' ∧ (e.toList == e'.toList) = false ∧ ¬ e = e') ∨ (d = d' ∧ e = e' ∧ (f.toList == f'.toList) = false ∧ ¬ f = f') := by
  by_cases h1 : d = d'
  · by_cases h2 : e = e'
    · by_cases h3 : f = f'
      · exact .inl ⟨h1, h2, h3⟩
      · exact .inr (.inr (.inr ⟨h1, h2, toList_ne h3, h3⟩))
    · exact .inr (.inr (.inl ⟨h1, toList_ne h2, h2⟩))
  · exact .inr (.inl ⟨toList_ne h1, h1⟩)
theorem okF_e {u v : ByteArray} (h : u.toList.isEmpty = true) : okF u v = true := by unfold okF; rw [h]; rfl
theorem okF_s (u : ByteArray) : okF u u = true := by unfold okF; simp
theorem okF_n {u v : ByteArray} (h : u.toList.isEmpty = false) (k : ¬ u = v) : okF u v = false := by unfold okF; rw [h]; simp [k]
theorem tk_a {f : Fil} {t : Tup} (h : okF f.a t.a = false) : takes f t = false := by unfold takes; rw [h]; simp
theorem tk_b {f : Fil} {t : Tup} (h : okF f.b t.b = false) : takes f t = false := by unfold takes; rw [h]; simp
theorem tk_c {f : Fil} {t : Tup} (h : okF f.c t.c = false) : takes f t = false := by unfold takes; rw [h]; simp
theorem tk_all {f : Fil} {t : Tup} {u : Bool} (ha : okF f.a t.a = true) (hb : okF f.b t.b = true) (hc : okF f.c t.c = true) (hu : (!f.x || decide (f.d = t.d ∧ f.e = t.e ∧ f.f = t.f)) = u) : takes f t = u := by unfold takes; rw [ha, hb, hc, hu]; rfl
theorem tI {f : Fil} {t : Tup} {u : Bool} (h : takes f t = u) : takesI f t = if u then 1 else 0 := by unfold takesI; rw [h]


end Go.Proofs.Ytfgjeflhhfjgeaa
