/-
  THE CONTRACTS of a Reader's Text and name.
-/
import Derived.Test.YtohnhjmiblgkkaaCRead
import Derived.Deep.DeepCutAuto
namespace Go.Proofs.Ytohnhjmiblgkkaa
open Go.RowKit

/-- string(l[k:k+n]) -/
theorem conv_cut (w : World) (g k n c : Nat) (L : List UInt8) (hd : Dat w g L) (h : k + n ≤ L.length) : (convert 25 9 (.slice (some ⟨g, k, none⟩) n c)).run Try.prog w = .ok (.string (cutB L k n)) w := by
  have hl : ((L.drop k).take n).length = n := by rw [List.length_take, List.length_drop]; omega
  have := run_convert_bytes_back (P := Try.prog) w 25 9 5 ⟨g, k, none⟩ c ((L.drop k).take n) Try.underlying25 Try.underlying5 Try.underlying9 (fun j hj => by
    rw [hl] at hj
    have e : (⟨g, k, none⟩ : Addr).add j = ⟨g, k + j, none⟩ := by unfold Addr.add; split <;> simp_all
    rw [e, hd.2 (k + j) (by omega)]
    simp)
  rw [hl] at this
  exact this
theorem conv_none (w : World) (A : Option Addr) (c : Nat) : (convert 25 9 (.slice A 0 c)).run Try.prog w = .ok (.string ⟨#[]⟩) w := by
  cases A with
  | none => exact run_convert_bytes_nil (P := Try.prog) w 25 5 Try.underlying25 Try.underlying5 0 c 9 Try.underlying9
  | some a => exact run_convert_bytes_back (P := Try.prog) w 25 9 5 a c [] Try.underlying25 Try.underlying5 Try.underlying9 (fun j hj => by simp at hj)
/-- string(l) -/
theorem conv_all (w : World) (A : Option Addr) (c : Nat) (L : List UInt8) (h : Byt w A L) : (convert 25 9 (.slice A L.length c)).run Try.prog w = .ok (.string ⟨L.toArray⟩) w := by
  by_cases hn : L = []
  · subst hn; exact conv_none w A c
  · obtain ⟨g, rfl, hd⟩ := h hn
    have := conv_cut w g 0 L.length c L hd (by omega)
    rw [this]
    simp [cutB]
theorem sk {w w' : World} {a r : Nat} {A : Option Addr} {L : List UInt8} {t : St} (hg : w.grownBy w' (some r)) (hR : RS w' r A L t) (ha : a ≠ r)
    (h : w.cell? ⟨a, 0, none⟩ = some (.pointer (some ⟨r, 0, none⟩)) ∧ w.cell? ⟨r, 0, none⟩ = some (.slice A L.length L.length)) :
    w'.cell? ⟨a, 0, none⟩ = some (.pointer (some ⟨r, 0, none⟩)) ∧ w'.cell? ⟨r, 0, none⟩ = some (.slice A L.length L.length) := ⟨hg.cell h.1 (fun e => ha (by injection e)), hR.c0⟩
set_option maxRecDepth 20000 in
set_option maxHeartbeats 1000000 in
theorem text1_any (r a b : Nat) (A : Option Addr) (L : List UInt8) (l : Int) (hl : -9223372036854775808 ≤ l ∧ l ≤ 9223372036854775807) (s : St) (w : World) (h : RS w r A L s)
    (ca : w.cell? ⟨a, 0, none⟩ = some (.pointer (some ⟨r, 0, none⟩))) (cb : w.cell? ⟨b, 0, none⟩ = some (.int .i64 l)) (ha : a ≠ r) (hb : b ≠ r) :
    Calls Try.prog 65 #[.pointer (some ⟨a, 0, none⟩), .pointer (some ⟨b, 0, none⟩)] w (RPost w r A L (.string (rtx L (lmt l) s).1) (rtx L (lmt l) s).2) := by
  have H := hid h
  have HL := hid hl
  have HA := hid (And.intro ha hb)
  clear h hl ha hb
  go_enter Try.func65, Try.ntmps65
  go_wp2_with fail
  refine (len_any r A L l HL.out s w H.out).mono ?_
  rintro x w1 ⟨rfl, hR1, hg1⟩
  have d1 := hg1.cell ca (fun e => HA.out.1 (by injection e))
  have HR := hid hR1
  have HG := hid hg1
  clear hR1 hg1 ca cb
  generalize lmt l = g at *
  have HU : Hid (rtx L g s = if L.length - (upTo L g 3 s).2.at_ < (upTo L g 3 s).1 then (⟨#[]⟩, ⟨(upTo L g 3 s).2.at_, (L.length : Int), 17⟩)
    else (cutB L (upTo L g 3 s).2.at_ (upTo L g 3 s).1, ⟨(upTo L g 3 s).2.at_ + (upTo L g 3 s).1, (upTo L g 3 s).2.fa, (upTo L g 3 s).2.fe⟩)) := hid rfl
  generalize (upTo L g 3 s).1 = n at *
  generalize (upTo L g 3 s).2 = t at *
  go_wp2_with fail
  refine (left_any r A L t w1 HR.out).mono ?_
  rintro x w2 ⟨rfl, hb2⟩
  have HR2 := hid (HR.out.below hb2)
  have HG2 := hid (HG.out.trans (gb_below hb2))
  have d2 : w2.cell? ⟨a, 0, none⟩ = some (.pointer (some ⟨r, 0, none⟩)) := (hb2.cell (p := ⟨a, 0, none⟩) (World.block_lt_of_cell? _ _ d1)).trans d1
  clear hb2 d1 HR HG
  have c0 := HR2.out.c0
  have c1 := HR2.out.c1
  have HT := hid HR2.out.ok.1
  have HM := hid HR2.out.lim
  by_cases hq : L.length - t.at_ < n
  · have HV : Hid (rtx L g s = (⟨#[]⟩, ⟨t.at_, (L.length : Int), 17⟩)) := hid (by rw [HU.out, if_pos hq])
    clear HU
    have hq2 : ((L.length - t.at_ : Nat) : Int) < (n : Int) := by omega
    generalize hm : L.length - t.at_ = q at *
    clear hm hq c1
    have hS : w2.cell? ⟨a, 0, none⟩ = some (.pointer (some ⟨r, 0, none⟩)) ∧ w2.cell? ⟨r, 0, none⟩ = some (.slice A L.length L.length) := ⟨d2, c0⟩
    go_upto_region 3 with fail
    go_cut [] (fun wx => RS wx r A L ⟨t.at_, (L.length : Int), 17⟩ ∧ w.grownBy wx (some r))
    case first =>
      go_region_held3 (fun w' => w'.cell? ⟨a, 0, none⟩ = some (.pointer (some ⟨r, 0, none⟩)) ∧ w'.cell? ⟨r, 0, none⟩ = some (.slice A L.length L.length)) (first | assumption | exact sk (by assumption) (by assumption) HA.out.1 (by assumption))
        (first | (go_at_call 66; (with_reducible refine Calls.mono (fail_any r A L t (L.length : Int) 17 (fun h => by cases h) _ (HR2.out.below (g_drew g_refl))) ?_); rintro x w3 ⟨rfl, hR3, hg3⟩))
      all_goals
        go_wp2_with fail
        go_meet
        exact ⟨hR3, HG2.out.trans ((gb_below (g_drew g_refl)).trans hg3)⟩
    case rest =>
      obtain ⟨hR3, hg3⟩ := hcut
      have HR3 := hid hR3
      have HG3 := hid hg3
      clear hR3 hg3
      go_wp2
      go_ret
      unfold RPost
      rw [HV.out]
      exact ⟨rfl, HR3.out, HG3.out⟩
  · have HV : Hid (rtx L g s = (cutB L t.at_ n, ⟨t.at_ + n, t.fa, t.fe⟩)) := hid (by rw [HU.out, if_neg hq])
    clear HU
    have hq2 : ¬ ((L.length - t.at_ : Nat) : Int) < (n : Int) := by omega
    have HQ := hid hq
    have f1 := HR2.out.f 1
    generalize hm : L.length - t.at_ = q at *
    have HT2 := HT.out
    have HM2 := HM.out
    generalize hp : t.at_ + n = p at *
    have h5 : (t.at_ : Int) + (n : Int) = (p : Int) := by omega
    have h6 : t.at_ ≤ p := by omega
    have h7 : p ≤ L.length := by omega
    have h8 : (p : Int) ≤ 1000000 := by omega
    have h9 : p - t.at_ = n := by omega
    have HP := hid hp
    clear hm hq hp HM2 HT2
    have HX := hid (HR2.out.at1 p h7)
    by_cases hkm : L.length = t.at_
    · have hn0 : n = 0 := by omega
      have HC := conv_none
      subst hn0
      have HZ : Hid (cutB L t.at_ 0 = ⟨#[]⟩) := hid (by simp [cutB])
      generalize t.at_ = k at *
      generalize hl2 : L.length = m at *
      subst hkm
      have hpm : p = m := by omega
      subst hpm
      go_wp2
      go_quiet (fail)
      go_wp2
      go_ret
      unfold RPost
      rw [HV.out]
      exact ⟨by rw [HZ.out]; rfl, by simpa only [HP.out] using HX.out.below (g_drewN g_refl _), HG2.out.trans ((gb_set _ _ _ _).trans (gb_below (g_drewN g_refl _)))⟩
    · have hk2 : ¬ L.length = t.at_ := hkm
      have hne : L ≠ [] := by intro e; subst e; simp at h7; simp at hk2; omega
      obtain ⟨ga, hA, hdat⟩ := HX.out.dat hne
      subst hA
      have HC : ∀ x, (convert 25 9 (.slice (some ⟨ga, t.at_, none⟩) n (L.length - t.at_))).run Try.prog ((w2.setCell ⟨r, 1, none⟩ (.int .i64 (p : Int))).drewN x) = .ok (.string (cutB L t.at_ n)) ((w2.setCell ⟨r, 1, none⟩ (.int .i64 (p : Int))).drewN x) :=
        fun x => conv_cut _ ga t.at_ n (L.length - t.at_) L hdat (by omega)
      generalize cutB L t.at_ n = out at *
      generalize t.at_ = k at *
      generalize hl2 : L.length = m at *
      go_wp2
      go_quiet (fail)
      go_wp2
      go_ret
      unfold RPost
      rw [HV.out]
      exact ⟨rfl, by simpa only [HP.out] using HX.out.below (g_drewN g_refl _), HG2.out.trans ((gb_set _ _ _ _).trans (gb_below (g_drewN g_refl _)))⟩

theorem text_any (r : Nat) (A : Option Addr) (L : List UInt8) (l : Int) (hl : -9223372036854775808 ≤ l ∧ l ≤ 9223372036854775807) (s : St) (w : World) (h : RS w r A L s) :
    Calls Try.prog 27 #[.pointer (some ⟨r, 0, none⟩), .int .i64 l] w (RPost w r A L (.string (rtext L (lmt l) s).1) (rtext L (lmt l) s).2) := by
  have H := hid h
  have HL := hid hl
  clear h hl
  go_enter Try.func27, Try.ntmps27
  go_wp2_with fail
  have hlt := H.out.lt
  have hB : Below w.heap.size w ((w.alloc (Obj.cells #[Value.pointer (some { block := r, off := 0 })] 36)).alloc (Obj.cells #[Value.int IntKind.i64 l] 3)) := g_alloc (g_alloc g_refl _) _
  have k1 : ((w.alloc (Obj.cells #[Value.pointer (some { block := r, off := 0 })] 36)).alloc (Obj.cells #[Value.int IntKind.i64 l] 3)).cell? ⟨w.heap.size, 0, none⟩ = some (.pointer (some ⟨r, 0, none⟩)) := by go_simp
  have k2 : ((w.alloc (Obj.cells #[Value.pointer (some { block := r, off := 0 })] 36)).alloc (Obj.cells #[Value.int IntKind.i64 l] 3)).cell? ⟨w.heap.size + 1, 0, none⟩ = some (.int .i64 l) := by go_simp
  refine (read_str 65 #[] #[.pointer (some ⟨w.heap.size, 0, none⟩), .pointer (some ⟨w.heap.size + 1, 0, none⟩)] #[.pointer (some ⟨w.heap.size, 0, none⟩), .pointer (some ⟨w.heap.size + 1, 0, none⟩)] (fun _ => by kernel_rfl) r A L s _ (H.out.below hB) (rtx L (lmt l)) (fun _ => text1_any r _ _ A L l HL.out s _ (H.out.below hB) k1 k2 (by omega) (by omega))).mono ?_
  rintro x w1 ⟨rfl, h1, h2⟩
  go_wp2
  go_ret
  exact ⟨rfl, h1, (gb_below hB).trans h2⟩
theorem name_any (r : Nat) (A : Option Addr) (L : List UInt8) (s : St) (w : World) (h : RS w r A L s) :
    Calls Try.prog 63 #[.pointer (some ⟨r, 0, none⟩)] w (RPost w r A L (.string (rname L s).1) (rname L s).2) := by
  have H := hid h
  clear h
  go_enter Try.func63, Try.ntmps63
  go_wp2_with fail
  refine (text_any r A L 16 (by decide) s w H.out).mono ?_
  rintro x w1 ⟨rfl, h1, h2⟩
  go_wp2
  go_ret
  exact ⟨rfl, h1, h2⟩
end Go.Proofs.Ytohnhjmiblgkkaa
