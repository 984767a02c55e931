/-
  THE CONTRACTS of a Reader's Left, Failed, fail and groups.
-/
import Derived.Test.YtohnhjmiblgkkaaCBits
import Derived.Test.YtohnhjmiblgkkaaRows
import Derived.WalkSpells
import Derived.WalkLawsBesides
import Derived.LoopTactic
import Derived.Outline
import Derived.IntWalk
import Derived.BigQuiet
import Derived.Deep.RegionHeld3
import Derived.Deep.Quiet
import Derived.Deep.LoopGhost
namespace Go.Proofs.Ytohnhjmiblgkkaa
open Go.RowKit

/-- what a call on a reader leaves -/
def RPost (w : World) (r : Nat) (A : Option Addr) (L : List UInt8) (v : Value) (s : St) (e : Ending) (w' : World) : Prop :=
  e = .returned v ∧ RS w' r A L s ∧ w.grownBy w' (some r)

theorem left_any (r : Nat) (A : Option Addr) (L : List UInt8) (s : St) (w : World) (h : RS w r A L s) :
    Calls Try.prog 17 #[.pointer (some ⟨r, 0, none⟩)] w fun e w' => e = .returned (.int .i64 ((L.length - s.at_ : Nat) : Int)) ∧ Below w.heap.size w w' := by
  obtain ⟨c0, c1, c2, c3, f, lt, dat, far, ok, lim⟩ := h
  have h1 := ok.1
  generalize L.length = n at *
  generalize s.at_ = m at *
  clear ok dat far
  go_enter Try.func17, Try.ntmps17
  go_wp2
  go_quiet (fail)
  go_wp2
  go_ret
  exact ⟨by simp; omega, g_drewN g_refl _⟩

theorem failed_any (r : Nat) (A : Option Addr) (L : List UInt8) (s : St) (w : World) (h : RS w r A L s) :
    Calls Try.prog 21 #[.pointer (some ⟨r, 0, none⟩)] w fun e w' => e = .returned (.bool (decide (s.fe ≠ 0))) ∧ w' = w := by
  obtain ⟨c0, c1, c2, c3, f, lt, dat, far, ok, lim⟩ := h
  have h1 := ok.2
  generalize s.fe = n at *
  generalize s.fa = m at *
  clear ok dat far c0 c1 f lim
  by_cases hn : n = 0
  · subst hn
    have hm := h1 rfl
    subst hm
    go_enter Try.func21, Try.ntmps21
    go_wp2
    go_ret
    exact ⟨rfl, rfl⟩
  · clear h1
    have HN := hid hn
    by_cases hm : m = 0
    · go_enter Try.func21, Try.ntmps21
      go_wp2
      go_ret
      exact ⟨by simp [HN.out], rfl⟩
    · go_enter Try.func21, Try.ntmps21
      go_wp2
      go_ret
      exact ⟨by simp [HN.out], rfl⟩

theorem fail_any (r : Nat) (A : Option Addr) (L : List UInt8) (s : St) (a e : Int) (he : e = 0 → a = 0) (w : World) (h : RS w r A L s) :
    Calls Try.prog 66 #[.pointer (some ⟨r, 0, none⟩), .int .i64 a, .int .i64 e] w (RPost w r A L (.tuple #[]) ⟨s.at_, a, e⟩) := by
  have H := hid h
  obtain ⟨c0, c1, c2, c3, f, lt, dat, far, ok, lim⟩ := h
  clear ok dat far c0 c1
  have f2 := f 2
  have f3 := f 3
  clear f
  go_enter Try.func66, Try.ntmps66
  go_wp2
  go_end0
  exact ⟨rfl, H.out.flt a e he, (gb_set _ _ _ _).trans (gb_set _ _ _ _)⟩

/-- what groups leaves -/
def GPost (w : World) (r : Nat) (A : Option Addr) (L : List UInt8) (s : St) : Ending → World → Prop := RPost w r A L (.int .u64 ((grp L s).1 : Int)) (grp L s).2
theorem grp_bad {L : List UInt8} {s : St} {k : Nat} {e : Int} (h : rd 0 (L.drop s.at_) = .bad k e) : grp L s = (0, ⟨s.at_ + k, ((s.at_ + k : Nat) : Int), e⟩) := by unfold grp; rw [h]
theorem grp_good {L : List UInt8} {s : St} {v k : Nat} (h : rd 0 (L.drop s.at_) = .ok v k) : grp L s = (v, ⟨s.at_ + k, s.fa, s.fe⟩) := by unfold grp; rw [h]

set_option maxRecDepth 20000 in
set_option maxHeartbeats 2000000 in
theorem groups_any (r : Nat) (A : Option Addr) (L : List UInt8) (s : St) (w : World) (h : RS w r A L s) :
    Calls Try.prog 59 #[.pointer (some ⟨r, 0, none⟩)] w (GPost w r A L s) := by
  have H := hid h
  have hlim := h.lim
  clear h
  go_enter Try.func59, Try.ntmps59
  go_wp2
  go_loopg [3, 4] 10 (fun k x sh wr => ∃ i n : Nat, k = 10 - i ∧ i ≤ 9 ∧ x = .int .u64 n ∧ sh = .int .i64 (7 * i : Nat) ∧ RS wr r A L ⟨s.at_ + i, s.fa, s.fe⟩ ∧ w.grownBy wr (some r) ∧ n < 128 ^ i ∧ rd 0 (L.drop s.at_) = acc i n (rd i (L.drop (s.at_ + i))))
  case atStart => exact ⟨0, 0, rfl, by omega, rfl, rfl, H.out, World.grownBy.refl _ _, by decide, by rw [acc_zero]; rfl⟩
  case round =>
    obtain ⟨i, n, hk, hi, rfl, rfl, hRS, hg, hn, hrd⟩ := hrel
    have HR := hid hRS; clear hRS
    have HD := hid hrd; clear hrd
    have HN := hid hn; clear hn
    have HG := hid hg; clear hg
    go_wp2_with fail
    refine (left_any r A L _ wr HR.out).mono ?_
    rintro e w1 ⟨rfl, hb1⟩
    have HR1 := hid (HR.out.below hb1)
    have HG1 := hid (HG.out.trans (gb_below hb1))
    clear hb1 HR HG
    by_cases hl : s.at_ + i < L.length
    · have hne : L ≠ [] := by intro e; subst e; simp at hl
      obtain ⟨g, hA, hdat⟩ := HR1.out.dat hne
      subst hA
      obtain ⟨b, hb⟩ : ∃ b, L[s.at_ + i] = b := ⟨_, rfl⟩
      have cb := hdat.2 _ hl
      rw [hb] at cb
      have HX : Hid (L.drop (s.at_ + i) = b :: L.drop (s.at_ + (i + 1))) := hid (by rw [List.drop_eq_getElem_cons hl, hb]; rfl)
      have c0 := HR1.out.c0
      have c1 : w1.cell? ⟨r, 1, none⟩ = some (.int .i64 ((s.at_ + i : Nat) : Int)) := HR1.out.c1
      have f1 := HR1.out.f 1
      have hbl := b.toNat_lt
      have hp0 : (0 : Int) ≤ ((s.at_ + i : Nat) : Int) := by omega
      have hp1 : ((s.at_ + i : Nat) : Int) < ((L.length : Nat) : Int) := by omega
      have hpos : (0 : Int) < ((L.length - (s.at_ + i) : Nat) : Int) := by omega
      have hp2 : s.at_ + i < L.length := hl
      have HL := hid hp2
      clear hne hdat hl hp2 hb
      generalize hq : L.length - (s.at_ + i) = q at *
      generalize hm : L.length = m at *
      generalize hpp : s.at_ + i = p at *
      have HQ := hid (And.intro hpp (And.intro hm hq))
      clear hpp hm hq
      by_cases hf : (0 < i ∧ b.toNat = 0) ∨ (i = 9 ∧ b.toNat ≠ 1)
      · have HF := hid hf
        have HB : Hid (grp L s = (0, ⟨s.at_ + i, ((s.at_ + i : Nat) : Int), 5⟩)) := hid (grp_bad (by rw [HD.out, HX.out, rd_form i b _ HF.out]; rfl))
        clear HX HD HN
        by_cases h0 : 0 < i ∧ b.toNat = 0
        · obtain ⟨h1, h2⟩ := h0
          have h3 : (0 : Int) < ((7 * i : Nat) : Int) := by omega
          generalize b.toNat = bn at *
          subst h2
          generalize 7 * i = sh at *
          clear hf hbl h1 HF hi
          -- a last byte that is 0
          go_wp2
          go_quiet (fail)
          go_wp2_with fail
          refine (fail_any r _ L _ (p : Int) 5 (fun h => by cases h) _ (HR1.out.below (g_drewN g_refl _))).mono ?_
          rintro e w2 ⟨rfl, hR2, hg2⟩
          go_wp2
          go_ret
          unfold GPost RPost
          rw [HB.out, HQ.out.1]
          exact ⟨rfl, hR2, HG1.out.trans ((gb_below (g_drewN g_refl _)).trans hg2)⟩
        · have h1 : i = 9 := by omega
          have h3 : (0 : Int) < ((7 * i : Nat) : Int) := by omega
          have h4 : (((7 * i : Nat) : Int) == 63) = true := by rw [show ((7 * i : Nat) : Int) = 63 by omega]; rfl
          have h5 : ((b.toNat : Int) == 0) = false := beq_eq_false_iff_ne.2 (by omega)
          have h6 : ((b.toNat : Int) != 1) = true := bne_iff_ne.2 (by omega)
          generalize b.toNat = bn at *
          generalize 7 * i = sh at *
          clear hf h0 HF hi h1
          -- a tenth byte that is not 1
          go_wp2
          go_quiet (fail)
          go_wp2_with fail
          refine (fail_any r _ L _ (p : Int) 5 (fun h => by cases h) _ (HR1.out.below (g_drewN g_refl _))).mono ?_
          rintro e w2 ⟨rfl, hR2, hg2⟩
          go_wp2
          go_ret
          unfold GPost RPost
          rw [HB.out, HQ.out.1]
          exact ⟨rfl, hR2, HG1.out.trans ((gb_below (g_drewN g_refl _)).trans hg2)⟩
      · have HF := hid hf
        have HI := hid hi
        have HE := hid (And.intro hbl (show i = 9 → b.toNat = 1 from fun h => by omega))
        by_cases hb : b.toNat < 128
        · as_aux_lemma =>
          have HB : Hid (grp L s = (n + 128 ^ i * (b.toNat % 128), ⟨s.at_ + (i + 1), s.fa, s.fe⟩)) := hid (grp_good (by
            rw [HD.out, HX.out, rd_last i b _ HF.out hb]
            show Rd.ok (n + 128 ^ i * b.toNat) (i + 1) = _
            rw [Nat.mod_eq_of_lt hb]))
          have hand : (bits BinOp.and IntKind.u8 (b.toNat : Int) 128 == 0) = true := by rw [and128_lo hb]; rfl
          clear HD HX
          by_cases hix : i = 0
          · -- the first byte
            have h3 : ¬ (0 : Int) < ((7 * i : Nat) : Int) := by omega
            have h4 : (((7 * i : Nat) : Int) == 63) = false := beq_eq_false_iff_ne.2 (by omega)
            generalize b.toNat = bn at *
            have hmin : min (7 * i) 64 = 7 * i := by omega
            generalize hsh : 7 * i = sh at *
            have HS := hid hsh
            clear hsh hf hb hbl hi hix HF
            go_wp2
            go_quiet (fail)
            go_wp2
            go_ret
            unfold GPost RPost
            rw [HB.out]
            refine ⟨?_, ?_, HG1.out.trans ((gb_below (g_drewN g_refl _)).trans (gb_set _ _ _ _))⟩
            · rw [grp_or2 HS.out.symm HI.out HE.out.1 HE.out.2 HN.out]; rfl
            · exact (HR1.out.below (g_drewN g_refl _)).at2 (s.at_ + (i + 1)) _ (by have := HQ.out.1; omega) (by have := HQ.out.1; have := HQ.out.2.1; have := HL.out; omega)
          · by_cases hix9 : i = 9
            · -- the tenth byte
              have h3 : (0 : Int) < ((7 * i : Nat) : Int) := by omega
              have h4 : (((7 * i : Nat) : Int) == 63) = true := by rw [show ((7 * i : Nat) : Int) = 63 by omega]; rfl
              have h5 : ((b.toNat : Int) == 0) = false := beq_eq_false_iff_ne.2 (by omega)
              have h6 : ((b.toNat : Int) != 1) = false := by rw [show (b.toNat : Int) = 1 by omega]; rfl
              generalize b.toNat = bn at *
              have hmin : min (7 * i) 64 = 7 * i := by omega
              generalize hsh : 7 * i = sh at *
              have HS := hid hsh
              clear hsh hf hb hbl hi hix hix9 HF
              go_wp2
              go_quiet (fail)
              go_wp2
              go_ret
              unfold GPost RPost
              rw [HB.out]
              refine ⟨?_, ?_, HG1.out.trans ((gb_below (g_drewN g_refl _)).trans (gb_set _ _ _ _))⟩
              · rw [grp_or2 HS.out.symm HI.out HE.out.1 HE.out.2 HN.out]; rfl
              · exact (HR1.out.below (g_drewN g_refl _)).at2 (s.at_ + (i + 1)) _ (by have := HQ.out.1; omega) (by have := HQ.out.1; have := HQ.out.2.1; have := HL.out; omega)
            · -- in the midst
              have h3 : (0 : Int) < ((7 * i : Nat) : Int) := by omega
              have h4 : (((7 * i : Nat) : Int) == 63) = false := beq_eq_false_iff_ne.2 (by omega)
              have h5 : ((b.toNat : Int) == 0) = false := beq_eq_false_iff_ne.2 (by omega)
              generalize b.toNat = bn at *
              have hmin : min (7 * i) 64 = 7 * i := by omega
              generalize hsh : 7 * i = sh at *
              have HS := hid hsh
              clear hsh hf hb hbl hi hix hix9 HF
              go_wp2
              go_quiet (fail)
              go_wp2
              go_ret
              unfold GPost RPost
              rw [HB.out]
              refine ⟨?_, ?_, HG1.out.trans ((gb_below (g_drewN g_refl _)).trans (gb_set _ _ _ _))⟩
              · rw [grp_or2 HS.out.symm HI.out HE.out.1 HE.out.2 HN.out]; rfl
              · exact (HR1.out.below (g_drewN g_refl _)).at2 (s.at_ + (i + 1)) _ (by have := HQ.out.1; omega) (by have := HQ.out.1; have := HQ.out.2.1; have := HL.out; omega)
        · as_aux_lemma =>
          have HB : Hid (rd 0 (L.drop s.at_) = acc (i + 1) (n + 128 ^ i * (b.toNat % 128)) (rd (i + 1) (L.drop (s.at_ + (i + 1))))) := hid (by
            rw [HD.out, HX.out, rd_more i n b _ HF.out hb])
          have hand : (bits BinOp.and IntKind.u8 (b.toNat : Int) 128 == 0) = false := beq_eq_false_iff_ne.2 (and128_hi hbl hb)
          have h9 : i ≠ 9 := fun h => by omega
          have HJ : Hid (i + 1 ≤ 9) := hid (by omega)
          clear HD HX h9
          by_cases hix : i = 0
          · -- the first byte
            have h3 : ¬ (0 : Int) < ((7 * i : Nat) : Int) := by omega
            have h4 : (((7 * i : Nat) : Int) == 63) = false := beq_eq_false_iff_ne.2 (by omega)
            generalize b.toNat = bn at *
            have hmin : min (7 * i) 64 = 7 * i := by omega
            generalize hsh : 7 * i = sh at *
            have HS := hid hsh
            clear hsh hf hb hbl hi hix HF
            go_wp2
            go_quiet (fail)
            go_wp2
            go_roundg (10 - (i + 1))
            case measure => have := HI.out; omega
            case rel =>
              refine ⟨i + 1, n + 128 ^ i * (bn % 128), rfl, HJ.out, ?_, ?_, ?_, HG1.out.trans ((gb_below (g_drewN g_refl _)).trans (gb_set _ _ _ _)), grp_next HN.out, HB.out⟩
              · rw [grp_or2 HS.out.symm HI.out HE.out.1 HE.out.2 HN.out]
              · rw [show 7 * (i + 1) = sh + 7 by have := HS.out; omega]; have := HJ.out; have := HS.out; go_num
              · exact (HR1.out.below (g_drewN g_refl _)).at2 (s.at_ + (i + 1)) _ (by have := HQ.out.1; omega) (by have := HQ.out.1; have := HQ.out.2.1; have := HL.out; omega)
          · -- in the midst
            have h3 : (0 : Int) < ((7 * i : Nat) : Int) := by omega
            have h4 : (((7 * i : Nat) : Int) == 63) = false := beq_eq_false_iff_ne.2 (by omega)
            have h5 : ((b.toNat : Int) == 0) = false := beq_eq_false_iff_ne.2 (by omega)
            generalize b.toNat = bn at *
            have hmin : min (7 * i) 64 = 7 * i := by omega
            generalize hsh : 7 * i = sh at *
            have HS := hid hsh
            clear hsh hf hb hbl hi hix HF
            go_wp2
            go_quiet (fail)
            go_wp2
            go_roundg (10 - (i + 1))
            case measure => have := HI.out; omega
            case rel =>
              refine ⟨i + 1, n + 128 ^ i * (bn % 128), rfl, HJ.out, ?_, ?_, ?_, HG1.out.trans ((gb_below (g_drewN g_refl _)).trans (gb_set _ _ _ _)), grp_next HN.out, HB.out⟩
              · rw [grp_or2 HS.out.symm HI.out HE.out.1 HE.out.2 HN.out]
              · rw [show 7 * (i + 1) = sh + 7 by have := HS.out; omega]; have := HJ.out; have := HS.out; go_num
              · exact (HR1.out.below (g_drewN g_refl _)).at2 (s.at_ + (i + 1)) _ (by have := HQ.out.1; omega) (by have := HQ.out.1; have := HQ.out.2.1; have := HL.out; omega)
    · have hz : L.length - (s.at_ + i) = 0 := by omega
      have HA := HR1.out.ok.1
      have he : s.at_ + i = L.length := by have : s.at_ + i ≤ L.length := HA; omega
      have HE := hid he
      have HB : Hid (grp L s = (0, ⟨s.at_ + i, ((s.at_ + i : Nat) : Int), 17⟩)) := hid (grp_bad (by rw [HD.out, he, List.drop_length, rd_nil]; rfl))
      simp only [hz]
      clear hl hz HA he HD HN
      have c0 := HR1.out.c0
      generalize hL : L.length = m at *
      go_wp2_with fail
      refine (fail_any r A L _ (m : Int) 17 (fun h => by cases h) _ HR1.out).mono ?_
      rintro e w2 ⟨rfl, hR2, hg2⟩
      go_wp2
      go_ret
      unfold GPost RPost
      rw [HB.out]
      exact ⟨rfl, by simpa only [HE.out] using hR2, HG1.out.trans hg2⟩
end Go.Proofs.Ytohnhjmiblgkkaa
