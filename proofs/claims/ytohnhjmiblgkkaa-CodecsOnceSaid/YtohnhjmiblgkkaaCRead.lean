/-
  THE CONTRACTS of the instances of codecs.read, for whatever closure: the value, and the place, as 'wrap' says.
-/
import Derived.Test.YtohnhjmiblgkkaaCRd
namespace Go.Proofs.Ytohnhjmiblgkkaa
open Go.RowKit

def vObj (x : ByteArray × ByteArray) : Value := .agg #[.string x.1, .string x.2]
def vGoal (x : (ByteArray × ByteArray) × ByteArray) : Value := .agg #[.string x.1.1, .string x.1.2, .string x.2]
def vTup (x : ((ByteArray × ByteArray) × ByteArray) × ((ByteArray × ByteArray) × ByteArray)) : Value := .agg #[.string x.1.1.1, .string x.1.1.2, .string x.1.2, .string x.2.1.1, .string x.2.1.2, .string x.2.2]
def vChg (x : (((ByteArray × ByteArray) × ByteArray) × ((ByteArray × ByteArray) × ByteArray)) × Bool) : Value := .agg #[.string x.1.1.1.1, .string x.1.1.1.2, .string x.1.1.2, .string x.1.2.1.1, .string x.1.2.1.2, .string x.1.2.2, .bool x.2]
def vQry (x : (Nat × ((ByteArray × ByteArray) × ByteArray)) × (ByteArray × ByteArray)) : Value := .agg #[.int .u8 x.1.1, .string x.1.2.1.1, .string x.1.2.1.2, .string x.1.2.2, .string x.2.1, .string x.2.2]

set_option maxRecDepth 20000 in
set_option maxHeartbeats 1000000 in
theorem read_u64 (fn : Nat) (bs cs args : Array Value) (hcf : ∀ w, (callFunc fn (bs ++ cs)).run Try.prog w = .ok (.enter fn args) w) (r : Nat) (A : Option Addr) (L : List UInt8) (s : St) (w : World) (h : RS w r A L s) (f : St → (Nat) × St)
    (hf : s.fe = 0 → Calls Try.prog fn args w (RPost w r A L (.int .u64 (((f s).1 : Nat) : Int)) (f s).2)) :
    Calls Try.prog 58 #[.pointer (some ⟨r, 0, none⟩), .func (.func fn) bs cs] w (RPost w r A L (.int .u64 (((wrap 0 f s).1 : Nat) : Int)) (wrap 0 f s).2) := by
  have H := hid h
  have HF := hid hf
  clear h hf
  go_enter Try.func58, Try.ntmps58
  go_wp2_with fail
  refine (failed_any r A L s w H.out).mono ?_
  rintro e w' ⟨rfl, rfl⟩
  by_cases h0 : s.fe = 0
  · have c1 := H.out.c1
    have HC := HF.out h0
    have HZ := hid h0
    clear HF
    generalize hb : decide (s.fe ≠ 0) = b0
    have hb0 : b0 = false := by rw [← hb, HZ.out]; rfl
    subst hb0
    clear hb h0
    go_wp2_with fail
    refine HC.mono ?_
    rintro e w2 ⟨rfl, hR2, hg2⟩
    clear HC c1
    have HR2 := hid hR2
    have HG2 := hid hg2
    clear hR2 hg2
    go_wp2_with fail
    refine (failed_any r A L (f s).2 w2 HR2.out).mono ?_
    rintro e w3 ⟨rfl, rfl⟩
    by_cases h2 : (f s).2.fe = 0
    · have HW := hid (wrap_good (z := 0) (f := f) HZ.out h2)
      generalize hb : decide ((f s).2.fe ≠ 0) = b0
      have hb0 : b0 = false := by rw [← hb, h2]; rfl
      subst hb0
      clear hb h2
      go_wp2
      go_ret
      unfold RPost
      rw [HW.out]
      exact ⟨rfl, HR2.out, HG2.out⟩
    · have HW := hid (wrap_fail (z := 0) (f := f) HZ.out h2)
      generalize hb : decide ((f s).2.fe ≠ 0) = b0
      have hb0 : b0 = true := by rw [← hb]; simp [h2]
      subst hb0
      have c1 := HR2.out.c1
      have f1 := HR2.out.f 1
      clear hb h2
      go_wp2
      go_ret
      unfold RPost
      rw [HW.out]
      exact ⟨rfl, HR2.out.at1 s.at_ H.out.ok.1, HG2.out.trans (gb_set _ _ _ _)⟩
  · have HW := hid (wrap_bad (z := 0) (f := f) h0)
    generalize hb : decide (s.fe ≠ 0) = b0
    have hb0 : b0 = true := by rw [← hb]; simp [h0]
    subst hb0
    clear hb h0 HF
    go_wp2
    go_ret
    unfold RPost
    rw [HW.out]
    exact ⟨rfl, H.out, World.grownBy.refl _ _⟩

set_option maxRecDepth 20000 in
set_option maxHeartbeats 1000000 in
theorem read_str (fn : Nat) (bs cs args : Array Value) (hcf : ∀ w, (callFunc fn (bs ++ cs)).run Try.prog w = .ok (.enter fn args) w) (r : Nat) (A : Option Addr) (L : List UInt8) (s : St) (w : World) (h : RS w r A L s) (f : St → (ByteArray) × St)
    (hf : s.fe = 0 → Calls Try.prog fn args w (RPost w r A L (.string (f s).1) (f s).2)) :
    Calls Try.prog 64 #[.pointer (some ⟨r, 0, none⟩), .func (.func fn) bs cs] w (RPost w r A L (.string (wrap ⟨#[]⟩ f s).1) (wrap ⟨#[]⟩ f s).2) := by
  have H := hid h
  have HF := hid hf
  clear h hf
  go_enter Try.func64, Try.ntmps64
  go_wp2_with fail
  refine (failed_any r A L s w H.out).mono ?_
  rintro e w' ⟨rfl, rfl⟩
  by_cases h0 : s.fe = 0
  · have c1 := H.out.c1
    have HC := HF.out h0
    have HZ := hid h0
    clear HF
    generalize hb : decide (s.fe ≠ 0) = b0
    have hb0 : b0 = false := by rw [← hb, HZ.out]; rfl
    subst hb0
    clear hb h0
    go_wp2_with fail
    refine HC.mono ?_
    rintro e w2 ⟨rfl, hR2, hg2⟩
    clear HC c1
    have HR2 := hid hR2
    have HG2 := hid hg2
    clear hR2 hg2
    go_wp2_with fail
    refine (failed_any r A L (f s).2 w2 HR2.out).mono ?_
    rintro e w3 ⟨rfl, rfl⟩
    by_cases h2 : (f s).2.fe = 0
    · have HW := hid (wrap_good (z := ⟨#[]⟩) (f := f) HZ.out h2)
      generalize hb : decide ((f s).2.fe ≠ 0) = b0
      have hb0 : b0 = false := by rw [← hb, h2]; rfl
      subst hb0
      clear hb h2
      go_wp2
      go_ret
      unfold RPost
      rw [HW.out]
      exact ⟨rfl, HR2.out, HG2.out⟩
    · have HW := hid (wrap_fail (z := ⟨#[]⟩) (f := f) HZ.out h2)
      generalize hb : decide ((f s).2.fe ≠ 0) = b0
      have hb0 : b0 = true := by rw [← hb]; simp [h2]
      subst hb0
      have c1 := HR2.out.c1
      have f1 := HR2.out.f 1
      clear hb h2
      go_wp2
      go_ret
      unfold RPost
      rw [HW.out]
      exact ⟨rfl, HR2.out.at1 s.at_ H.out.ok.1, HG2.out.trans (gb_set _ _ _ _)⟩
  · have HW := hid (wrap_bad (z := ⟨#[]⟩) (f := f) h0)
    generalize hb : decide (s.fe ≠ 0) = b0
    have hb0 : b0 = true := by rw [← hb]; simp [h0]
    subst hb0
    clear hb h0 HF
    go_wp2
    go_ret
    unfold RPost
    rw [HW.out]
    exact ⟨rfl, H.out, World.grownBy.refl _ _⟩

theorem number_any (r : Nat) (A : Option Addr) (L : List UInt8) (s : St) (w : World) (h : RS w r A L s) :
    Calls Try.prog 22 #[.pointer (some ⟨r, 0, none⟩)] w (RPost w r A L (.int .u64 ((rnum L s).1 : Int)) (rnum L s).2) := by
  have H := hid h
  go_enter Try.func22, Try.ntmps22
  go_wp2_with fail
  refine (read_u64 59 #[.pointer (some ⟨r, 0, none⟩)] #[] #[.pointer (some ⟨r, 0, none⟩)] (fun _ => by kernel_rfl) r A L s w H.out (grp L) (fun _ => groups_any r A L s w H.out)).mono ?_
  rintro e w1 ⟨rfl, h1, h2⟩
  go_wp2
  go_ret
  exact ⟨rfl, h1, h2⟩

theorem upto1_any (r a b c : Nat) (A : Option Addr) (L : List UInt8) (g : Nat) (e : Int) (he : e ≠ 0) (s : St) (w : World) (h : RS w r A L s)
    (ca : w.cell? ⟨a, 0, none⟩ = some (.pointer (some ⟨r, 0, none⟩))) (cb : w.cell? ⟨b, 0, none⟩ = some (.int .u64 g)) (cc : w.cell? ⟨c, 0, none⟩ = some (.int .i64 e)) (ha : a ≠ r) (hb : b ≠ r) (hc : c ≠ r) :
    Calls Try.prog 83 #[.pointer (some ⟨a, 0, none⟩), .pointer (some ⟨b, 0, none⟩), .pointer (some ⟨c, 0, none⟩)] w (RPost w r A L (.int .u64 ((upT L g e s).1 : Int)) (upT L g e s).2) := by
  have H := hid h
  have c1 := h.c1
  have HE := hid he
  have HA := hid (And.intro ha (And.intro hb hc))
  clear h he ha hb hc
  go_enter Try.func83, Try.ntmps83
  go_wp2_with fail
  refine (number_any r A L s w H.out).mono ?_
  rintro x w1 ⟨rfl, hR1, hg1⟩
  have d1 := hg1.cell ca (fun e => HA.out.1 (by injection e))
  have d2 := hg1.cell cb (fun e => HA.out.2.1 (by injection e))
  have d3 := hg1.cell cc (fun e => HA.out.2.2 (by injection e))
  have HR := hid hR1
  have HG := hid hg1
  clear hR1 hg1 ca cb cc c1
  by_cases hq : g < (rnum L s).1
  · have HU : Hid (upT L g e s = ((rnum L s).1, ⟨(rnum L s).2.at_, (s.at_ : Int), e⟩)) := hid (by unfold upT; rw [if_pos hq])
    generalize (rnum L s).1 = n at *
    have hq2 : (g : Int) < (n : Int) := by omega
    clear hq
    go_wp2_with fail
    refine (fail_any r A L _ (s.at_ : Int) e (fun h => absurd h HE.out) w1 HR.out).mono ?_
    rintro x w2 ⟨rfl, hR2, hg2⟩
    go_wp2
    go_ret
    unfold RPost
    rw [HU.out]
    exact ⟨rfl, hR2, HG.out.trans hg2⟩
  · have HU : Hid (upT L g e s = rnum L s) := hid (by unfold upT; rw [if_neg hq])
    generalize hn : (rnum L s).1 = n at *
    have HN := hid hn
    have hq2 : ¬ (g : Int) < (n : Int) := by omega
    clear hq hn
    go_wp2
    go_ret
    unfold RPost
    rw [HU.out, HN.out]
    exact ⟨rfl, HR.out, HG.out⟩

theorem upto_any (r : Nat) (A : Option Addr) (L : List UInt8) (g : Nat) (e : Int) (he : e ≠ 0) (s : St) (w : World) (h : RS w r A L s) :
    Calls Try.prog 67 #[.pointer (some ⟨r, 0, none⟩), .int .u64 g, .int .i64 e] w (RPost w r A L (.int .u64 ((upTo L g e s).1 : Int)) (upTo L g e s).2) := by
  have H := hid h
  have HE := hid he
  clear h he
  go_enter Try.func67, Try.ntmps67
  go_wp2_with fail
  have hlt := H.out.lt
  have hB : Below w.heap.size w (((w.alloc (Obj.cells #[Value.pointer (some { block := r, off := 0 })] 36)).alloc (Obj.cells #[Value.int IntKind.u64 g] 28)).alloc (Obj.cells #[Value.int IntKind.i64 e] 39)) := g_alloc (g_alloc (g_alloc g_refl _) _) _
  have k1 : (((w.alloc (Obj.cells #[Value.pointer (some { block := r, off := 0 })] 36)).alloc (Obj.cells #[Value.int IntKind.u64 g] 28)).alloc (Obj.cells #[Value.int IntKind.i64 e] 39)).cell? ⟨w.heap.size, 0, none⟩ = some (.pointer (some ⟨r, 0, none⟩)) := by go_simp
  have k2 : (((w.alloc (Obj.cells #[Value.pointer (some { block := r, off := 0 })] 36)).alloc (Obj.cells #[Value.int IntKind.u64 g] 28)).alloc (Obj.cells #[Value.int IntKind.i64 e] 39)).cell? ⟨w.heap.size + 1, 0, none⟩ = some (.int .u64 g) := by go_simp
  have k3 : (((w.alloc (Obj.cells #[Value.pointer (some { block := r, off := 0 })] 36)).alloc (Obj.cells #[Value.int IntKind.u64 g] 28)).alloc (Obj.cells #[Value.int IntKind.i64 e] 39)).cell? ⟨w.heap.size + 1 + 1, 0, none⟩ = some (.int .i64 e) := by go_simp
  refine (read_u64 83 #[] #[.pointer (some ⟨w.heap.size, 0, none⟩), .pointer (some ⟨w.heap.size + 1, 0, none⟩), .pointer (some ⟨w.heap.size + 1 + 1, 0, none⟩)] #[.pointer (some ⟨w.heap.size, 0, none⟩), .pointer (some ⟨w.heap.size + 1, 0, none⟩), .pointer (some ⟨w.heap.size + 1 + 1, 0, none⟩)] (fun _ => by kernel_rfl) r A L s _ (H.out.below hB) (upT L g e) (fun _ => upto1_any r _ _ _ A L g e HE.out s _ (H.out.below hB) k1 k2 k3 (by omega) (by omega) (by omega))).mono ?_
  rintro x w1 ⟨rfl, h1, h2⟩
  go_wp2
  go_ret
  exact ⟨rfl, h1, (gb_below hB).trans h2⟩

theorem bool_any (r : Nat) (A : Option Addr) (L : List UInt8) (s : St) (w : World) (h : RS w r A L s) :
    Calls Try.prog 30 #[.pointer (some ⟨r, 0, none⟩)] w (RPost w r A L (.bool ((upTo L 1 5 s).1 == 1)) (upTo L 1 5 s).2) := by
  have H := hid h
  clear h
  go_enter Try.func30, Try.ntmps30
  go_wp2_with fail
  refine (upto_any r A L 1 5 (by decide) s w H.out).mono ?_
  rintro x w1 ⟨rfl, h1, h2⟩
  have H1 := hid h1
  have H2 := hid h2
  clear h1 h2
  have HN := hid (upTo_le L 1 5 (by decide) s)
  generalize hn : (upTo L 1 5 s).1 = n at *
  rcases (show n = 0 ∨ n = 1 by have := HN.out; omega) with rfl | rfl <;>
  · clear hn
    go_wp2
    go_ret
    exact ⟨rfl, H1.out, H2.out⟩
theorem small_any (r : Nat) (A : Option Addr) (L : List UInt8) (s : St) (w : World) (h : RS w r A L s) :
    Calls Try.prog 46 #[.pointer (some ⟨r, 0, none⟩)] w (RPost w r A L (.int .u8 ((upTo L 255 5 s).1 : Int)) (upTo L 255 5 s).2) := by
  have H := hid h
  clear h
  go_enter Try.func46, Try.ntmps46
  go_wp2_with fail
  refine (upto_any r A L 255 5 (by decide) s w H.out).mono ?_
  rintro x w1 ⟨rfl, h1, h2⟩
  have H1 := hid h1
  have H2 := hid h2
  clear h1 h2
  have HN := hid (upTo_le L 255 5 (by decide) s)
  generalize hn : (upTo L 255 5 s).1 = n at *
  have HV := hid hn
  clear hn
  go_wp2
  go_ret
  exact ⟨by have := HN.out; simp; omega, H1.out, H2.out⟩
/-- a limit: below 0 it counts as 0 -/
def lmt (l : Int) : Nat := l.toNat
theorem len_any (r : Nat) (A : Option Addr) (L : List UInt8) (l : Int) (hl : -9223372036854775808 ≤ l ∧ l ≤ 9223372036854775807) (s : St) (w : World) (h : RS w r A L s) :
    Calls Try.prog 53 #[.pointer (some ⟨r, 0, none⟩), .int .i64 l] w (RPost w r A L (.int .i64 ((upTo L (lmt l) 3 s).1 : Int)) (upTo L (lmt l) 3 s).2) := by
  have H := hid h
  have HL := hid hl
  clear h hl
  go_enter Try.func53, Try.ntmps53
  by_cases h0 : 0 ≤ l
  · obtain ⟨m, rfl⟩ := Int.eq_ofNat_of_zero_le h0
    have hm : (0 : Int) ≤ (m : Int) := h0
    have hw : IntKind.u64.wrap (m : Int) = (m : Int) := wrap_u64 (by have := HL.out.2; omega)
    clear h0
    go_wp2_with fail
    try rw [hw]
    refine (upto_any r A L m 3 (by decide) s w H.out).mono ?_
    rintro x w1 ⟨rfl, h1, h2⟩
    have H1 := hid h1
    have H2 := hid h2
    clear h1 h2 hw
    have HN := hid (upTo_le L m 3 (by decide) s)
    have HM := hid (show lmt (m : Int) = m from Int.toNat_natCast m)
    generalize hn : (upTo L m 3 s).1 = n at *
    have HV := hid hn
    clear hn
    go_wp2
    go_ret
    unfold RPost
    rw [HM.out, HV.out]
    exact ⟨(congrArg (fun x => Ending.returned (Value.int .i64 x)) (Go.IntWalk.wrap64_in (n : Int) ⟨by omega, by have := HN.out; have := HL.out.2; omega⟩)), H1.out, H2.out⟩
  · have hm : ¬ (0 : Int) ≤ l := h0
    have hm2 : l < 0 := by omega
    have hw : IntKind.u64.wrap (0 : Int) = ((0 : Nat) : Int) := rfl
    clear h0
    go_wp2_with fail
    try rw [hw]
    refine (upto_any r A L 0 3 (by decide) s w H.out).mono ?_
    rintro x w1 ⟨rfl, h1, h2⟩
    have H1 := hid h1
    have H2 := hid h2
    clear h1 h2 hw
    have HN := hid (upTo_le L 0 3 (by decide) s)
    have HM := hid (show lmt l = 0 from Int.toNat_of_nonpos (by omega))
    generalize hn : (upTo L 0 3 s).1 = n at *
    have HV := hid hn
    clear hn
    go_wp2
    go_ret
    unfold RPost
    rw [HM.out, HV.out]
    exact ⟨(congrArg (fun x => Ending.returned (Value.int .i64 x)) (Go.IntWalk.wrap64_in (n : Int) ⟨by omega, by have := HN.out; omega⟩)), H1.out, H2.out⟩
end Go.Proofs.Ytohnhjmiblgkkaa
