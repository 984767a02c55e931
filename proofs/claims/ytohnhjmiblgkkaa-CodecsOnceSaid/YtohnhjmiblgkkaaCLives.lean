/-
  THE CONTRACT of lives of layer 4's law: it returns true.
-/
import Derived.Test.YtohnhjmiblgkkaaCStr
namespace Go.Proofs.Ytohnhjmiblgkkaa
open Go.RowKit

/-- a reader, and between which block numbers it lies -/
def RB (w : World) (lo hi r : Nat) (A : Option Addr) (L : List UInt8) (s : St) : Prop := RS w r A L s ∧ lo ≤ r ∧ r < hi ∧ (L ≠ [] → ∀ a, A = some a → lo ≤ a.block ∧ a.block < hi)
section
variable {w w' : World} {lo hi r q : Nat} {A : Option Addr} {L : List UInt8} {s t : St}
theorem RB.below (h : RB w lo hi r A L s) (hb : Below w.heap.size w w') : RB w' lo hi r A L s := ⟨h.1.below hb, h.2⟩
theorem RB.other (h : RB w lo hi r A L s) (hg : w.grownBy w' (some q)) (hq : q < lo ∨ hi ≤ q) : RB w' lo hi r A L s :=
  ⟨h.1.other hg (by have := h.2.1; have := h.2.2.1; omega) (fun hn a ha => by have := h.2.2.2 hn a ha; omega), h.2⟩
theorem RB.next (h : RB w lo hi r A L s) (hR : RS w' r A L t) : RB w' lo hi r A L t := ⟨hR, h.2⟩
theorem RB.mk0 {r : Nat} {B : Option Addr} (hR : RS w' r B L s) (h1 : w.heap.size ≤ r) (h2 : ∀ a, B = some a → w.heap.size ≤ a.block) : RB w' w.heap.size w'.heap.size r B L s :=
  ⟨hR, h1, hR.lt, fun hn a ha => ⟨h2 a ha, by
    obtain ⟨g, e, hd⟩ := hR.dat hn
    rw [e] at ha; injection ha with ha; subst ha; exact hd.1.1⟩⟩
end
theorem RB.mk1 {w w' w0 : World} {r : Nat} {L : List UInt8} {s : St} {B : Option Addr} (h0 : w0.heap.size ≤ w.heap.size) (hR : RS w' r B L s) (h1 : w.heap.size ≤ r) (h2 : ∀ a, B = some a → w.heap.size ≤ a.block) : RB w' w0.heap.size w'.heap.size r B L s := by
  have h := RB.mk0 hR h1 h2
  exact ⟨h.1, Nat.le_trans h0 h.2.1, h.2.2.1, fun hn a ha => ⟨Nat.le_trans h0 (h.2.2.2 hn a ha).1, (h.2.2.2 hn a ha).2⟩⟩
theorem byo1 (w : World) (a : UInt8) (x : Int) (hx : x = a.toNat) : ByO (w.alloc (.cells #[.int .u8 x] 5)) (some ⟨w.heap.size, 0, none⟩) [a] := fun _ =>
  ⟨w.heap.size, 0, rfl, by simp, fun i hi => by
    subst hx
    match i, hi with
    | 0, _ => simp⟩
theorem byo2 (w : World) (a b : UInt8) (x y : Int) (hx : x = a.toNat) (hy : y = b.toNat) : ByO (w.alloc (.cells #[.int .u8 x, .int .u8 y] 5)) (some ⟨w.heap.size, 0, none⟩) [a, b] := fun _ =>
  ⟨w.heap.size, 0, rfl, by simp, fun i hi => by
    subst hx; subst hy
    match i, hi with
    | 0, _ => simp
    | 1, _ => simp⟩
theorem number_v {r n : Nat} {A : Option Addr} {L : List UInt8} {s t : St} {w : World} (h : RS w r A L s) (e : rnum L s = (n, t)) :
    Calls Try.prog 22 #[.pointer (some ⟨r, 0, none⟩)] w (RPost w r A L (.int .u64 (n : Int)) t) := by
  have := number_any r A L s w h; rw [e] at this; exact this
theorem bool_v {r n : Nat} {A : Option Addr} {L : List UInt8} {s t : St} {w : World} (h : RS w r A L s) (e : upTo L 1 5 s = (n, t)) (b : Bool) (hb : (n == 1) = b) :
    Calls Try.prog 30 #[.pointer (some ⟨r, 0, none⟩)] w (RPost w r A L (.bool b) t) := by
  have := bool_any r A L s w h; rw [e] at this; subst hb; exact this
theorem text_v {r : Nat} {A : Option Addr} {L : List UInt8} {s t : St} {w : World} (l : Int) (x : ByteArray) (h : RS w r A L s) (hl : -9223372036854775808 ≤ l ∧ l ≤ 9223372036854775807) (e : rtext L (lmt l) s = (x, t)) :
    Calls Try.prog 27 #[.pointer (some ⟨r, 0, none⟩), .int .i64 l] w (RPost w r A L (.string x) t) := by
  have := text_any r A L l hl s w h; rw [e] at this; exact this
theorem end_v {r : Nat} {A : Option Addr} {L : List UInt8} {s : St} {w : World} (h : RS w r A L s) (a e : Int) (hf : fin L s = (a, e)) :
    Calls Try.prog 16 #[.pointer (some ⟨r, 0, none⟩)] w fun x w' => x = .returned (.tuple #[.int .i64 a, .int .i64 e]) ∧ Below w.heap.size w w' := by
  have := end_any r A L s w h; rw [hf] at this; exact this
/-- below a new writer nothing has turned -/
theorem lw {a w w' : World} {r : Nat} {v v' : Value} {L : List UInt8} (h : Below a.heap.size a w) (hs : WS w r a.heap.size v L) (hc : WC w w' r v v') (hr : a.heap.size ≤ r) : Below a.heap.size a w' :=
  WC.toBelow h hc hr fun k hk => (World.ownsRow.lt hs.own k hk).1
theorem ws0 (w : World) (base : Nat) : WS (w.alloc (.cells #[.slice none 0 0] 27)) w.heap.size base (.slice none 0 0) [] :=
  ⟨by simp, by simp, by simp, World.ownsRow_nil _ _ _ _, fun k h => by cases h⟩
theorem rv_a : rnum [172, 2] ⟨0, 0, 0⟩ = (300, ⟨2, 0, 0⟩) := by decide +kernel
theorem rv_b : rnum [172] ⟨0, 0, 0⟩ = (0, ⟨0, 1, 17⟩) := by decide +kernel
theorem rv_c : rnum [128, 0] ⟨0, 0, 0⟩ = (0, ⟨0, 1, 5⟩) := by decide +kernel
theorem rv_d : upTo [2] 1 5 ⟨0, 0, 0⟩ = (0, ⟨0, 0, 5⟩) := by decide +kernel
theorem rv_e : rtext [5, 97] (lmt 4) ⟨0, 0, 0⟩ = (⟨#[]⟩, ⟨0, 0, 3⟩) := by decide +kernel
theorem rv_f : upTo [1, 2] 1 5 ⟨0, 0, 0⟩ = (1, ⟨1, 0, 0⟩) := by decide +kernel
theorem rv_g : rtext [5, 97] (lmt 5) ⟨0, 0, 0⟩ = (⟨#[]⟩, ⟨0, 2, 17⟩) := by decide +kernel
theorem wv1 : [] ++ num 300 = [172, 2] := by decide +kernel
theorem wv2 : [172, 2] ++ num 18446744073709551615 = [172, 2, 255, 255, 255, 255, 255, 255, 255, 255, 255, 1] := by decide +kernel
theorem wv3 : [172, 2, 255, 255, 255, 255, 255, 255, 255, 255, 255, 1] ++ num (bit true) = [172, 2, 255, 255, 255, 255, 255, 255, 255, 255, 255, 1, 1] := by decide +kernel
theorem wv4 : [172, 2, 255, 255, 255, 255, 255, 255, 255, 255, 255, 1, 1] ++ tform ⟨#[97, 98]⟩ = [172, 2, 255, 255, 255, 255, 255, 255, 255, 255, 255, 1, 1, 2, 97, 98] := by decide +kernel
/-- the lists of lives -/
def LK (w : World) (t rb rc rd re rf rg : Nat) : Prop :=
  w.cell? ⟨t, 0, none⟩ = some (.int .i64 1) ∧ w.cell? ⟨t, 1, none⟩ = some (.int .i64 1) ∧ w.cell? ⟨t, 2, none⟩ = some (.int .i64 0) ∧ w.cell? ⟨t, 3, none⟩ = some (.int .i64 0) ∧ w.cell? ⟨t, 4, none⟩ = some (.int .i64 1) ∧ w.cell? ⟨t, 5, none⟩ = some (.int .i64 2) ∧ w.cell? ⟨t + 1, 0, none⟩ = some (.int .i64 17) ∧ w.cell? ⟨t + 1, 1, none⟩ = some (.int .i64 5) ∧ w.cell? ⟨t + 1, 2, none⟩ = some (.int .i64 5) ∧ w.cell? ⟨t + 1, 3, none⟩ = some (.int .i64 3) ∧ w.cell? ⟨t + 1, 4, none⟩ = some (.int .i64 5) ∧ w.cell? ⟨t + 1, 5, none⟩ = some (.int .i64 17) ∧ w.cell? ⟨t + 1 + 1, 0, none⟩ = some (.pointer (some ⟨rb, 0, none⟩)) ∧ w.cell? ⟨t + 1 + 1, 1, none⟩ = some (.pointer (some ⟨rc, 0, none⟩)) ∧ w.cell? ⟨t + 1 + 1, 2, none⟩ = some (.pointer (some ⟨rd, 0, none⟩)) ∧ w.cell? ⟨t + 1 + 1, 3, none⟩ = some (.pointer (some ⟨re, 0, none⟩)) ∧ w.cell? ⟨t + 1 + 1, 4, none⟩ = some (.pointer (some ⟨rf, 0, none⟩)) ∧ w.cell? ⟨t + 1 + 1, 5, none⟩ = some (.pointer (some ⟨rg, 0, none⟩)) ∧ t + 1 + 1 < w.heap.size
theorem LK.below {w w' : World} {t rb rc rd re rf rg : Nat} (h : LK w t rb rc rd re rf rg) (hb : Below w.heap.size w w') : LK w' t rb rc rd re rf rg := by
  obtain ⟨a0, a1, a2, a3, a4, a5, a6, a7, a8, a9, a10, a11, a12, a13, a14, a15, a16, a17, s⟩ := h
  have p := own_cells hb t (by omega)
  have q := own_cells hb (t + 1) (by omega)
  have o := own_cells hb (t + 1 + 1) s
  exact ⟨(p _).1.trans a0, (p _).1.trans a1, (p _).1.trans a2, (p _).1.trans a3, (p _).1.trans a4, (p _).1.trans a5, (q _).1.trans a6, (q _).1.trans a7, (q _).1.trans a8, (q _).1.trans a9, (q _).1.trans a10, (q _).1.trans a11, (o _).1.trans a12, (o _).1.trans a13, (o _).1.trans a14, (o _).1.trans a15, (o _).1.trans a16, (o _).1.trans a17, Nat.lt_of_lt_of_le s hb.size⟩

set_option maxRecDepth 20000 in
set_option maxHeartbeats 4000000 in
theorem lives_any (w : World) : Calls Try.prog 9 #[] w fun e w' => e = .returned (.bool true) ∧ Below w.heap.size w w' := by
  go_enter Try.func9, Try.ntmps9
  go_wp2_with fail
  refine (wnumber_any w.heap.size w.heap.size (.slice none 0 0) [] 300 (by decide) _ (ws0 w _) (by decide) (by simp)).mono ?_
  rintro e w1 ⟨rfl, v1, hw1, hc1⟩
  have hb1 := lw (g_alloc g_refl _) (ws0 w _) hc1 (Nat.le_refl _)
  rw [wv1] at hw1
  have HW1 := hid hw1
  have HB1 := hid hb1
  clear hw1 hc1 hb1
  go_wp2_with fail
  refine (wint_any w.heap.size w.heap.size v1 [172, 2] (-1) 18446744073709551615 (by decide) (by decide) _ HW1.out (by decide) HB1.out.size).mono ?_
  rintro e w2 ⟨rfl, v2, hw2, hc2⟩
  have hb2 := lw HB1.out HW1.out hc2 (Nat.le_refl _)
  rw [wv2] at hw2
  have HW2 := hid hw2
  have HB2 := hid hb2
  clear hw2 hc2 hb2 HW1 HB1
  go_wp2_with fail
  refine (wbool_any w.heap.size w.heap.size v2 _ true _ HW2.out (by decide) HB2.out.size).mono ?_
  rintro e w3 ⟨rfl, v3, hw3, hc3⟩
  have hb3 := lw HB2.out HW2.out hc3 (Nat.le_refl _)
  rw [wv3] at hw3
  have HW3 := hid hw3
  have HB3 := hid hb3
  clear hw3 hc3 hb3 HW2 HB2
  go_wp2_with fail
  refine (wtext_any w.heap.size w.heap.size v3 _ ⟨#[97, 98]⟩ (by decide) _ HW3.out (by decide) HB3.out.size).mono ?_
  rintro e w4 ⟨rfl, v4, hw4, hc4⟩
  have hb4 := lw HB3.out HW3.out hc4 (Nat.le_refl _)
  rw [wv4] at hw4
  have HW4 := hid hw4
  have HB4 := hid hb4
  clear hw4 hc4 hb4 HW3 HB3
  go_wp2_with fail
  refine (wbytes_any w.heap.size w.heap.size v4 _ _ HW4.out (by decide)).mono ?_
  rintro e w5 ⟨B5, rfl, hB5, hf5, hw5⟩
  have hcv := conv_all w5 B5 16 _ hB5
  have HW5 := hid (HW4.out.below hw5)
  have HB5 := hid (g_trans HB4.out hw5)
  clear hB5 hf5 hw5 HW4 HB4
  simp only [List.length_cons, List.length_nil, Nat.reduceAdd] at hcv ⊢
  go_wp2_with fail
  refine (wlen_any w.heap.size w.heap.size v4 _ w5 HW5.out).mono ?_
  rintro e w6 ⟨rfl, rfl⟩
  have HB := HB5
  clear HW5 HB5 hcv
  simp only [List.length_cons, List.length_nil, Nat.reduceAdd]
  have HZ := hid HB.out.size
  go_wp2_with fail
  refine (of_any (some ⟨w6.heap.size, 0, none⟩) 2 [172, 2] _ (byo2 w6 172 2 172 2 rfl rfl) (by decide) (fun h => by cases h) (by decide)).mono ?_
  rintro e x0 ⟨ra, Ba, rfl, hRa, h1a, h2a, hba⟩
  have hBa := g_trans (g_alloc g_refl _ : Below w6.heap.size w6 _) hba
  have Ha := hid (RB.mk1 (w0 := w6) (by simp) hRa h1a h2a)
  have HB := hid (g_trans HB.out hBa)
  have HSa := hid hBa.size
  clear hRa h1a h2a hba hBa
  go_wp2_with fail
  refine (of_any (some ⟨x0.heap.size, 0, none⟩) 1 [172] _ (byo1 x0 172 172 rfl) (by decide) (fun h => by cases h) (by decide)).mono ?_
  rintro e x1 ⟨rb, Bb, rfl, hRb, h1b, h2b, hbb⟩
  have hBb := g_trans (g_alloc g_refl _ : Below x0.heap.size x0 _) hbb
  have Hb := hid (RB.mk1 (w0 := x0) (by simp) hRb h1b h2b)
  have Ha := hid (Ha.out.below hBb)
  have HB := hid (g_trans HB.out hBb)
  have HSb := hid hBb.size
  clear hRb h1b h2b hbb hBb
  go_wp2_with fail
  refine (of_any (some ⟨x1.heap.size, 0, none⟩) 2 [128, 0] _ (byo2 x1 128 0 128 0 rfl rfl) (by decide) (fun h => by cases h) (by decide)).mono ?_
  rintro e x2 ⟨rc, Bc, rfl, hRc, h1c, h2c, hbc⟩
  have hBc := g_trans (g_alloc g_refl _ : Below x1.heap.size x1 _) hbc
  have Hc := hid (RB.mk1 (w0 := x1) (by simp) hRc h1c h2c)
  have Ha := hid (Ha.out.below hBc)
  have Hb := hid (Hb.out.below hBc)
  have HB := hid (g_trans HB.out hBc)
  have HSc := hid hBc.size
  clear hRc h1c h2c hbc hBc
  go_wp2_with fail
  refine (of_any (some ⟨x2.heap.size, 0, none⟩) 1 [2] _ (byo1 x2 2 2 rfl) (by decide) (fun h => by cases h) (by decide)).mono ?_
  rintro e x3 ⟨rd, Bd, rfl, hRd, h1d, h2d, hbd⟩
  have hBd := g_trans (g_alloc g_refl _ : Below x2.heap.size x2 _) hbd
  have Hd := hid (RB.mk1 (w0 := x2) (by simp) hRd h1d h2d)
  have Ha := hid (Ha.out.below hBd)
  have Hb := hid (Hb.out.below hBd)
  have Hc := hid (Hc.out.below hBd)
  have HB := hid (g_trans HB.out hBd)
  have HSd := hid hBd.size
  clear hRd h1d h2d hbd hBd
  go_wp2_with fail
  refine (of_any (some ⟨x3.heap.size, 0, none⟩) 2 [5, 97] _ (byo2 x3 5 97 5 97 rfl rfl) (by decide) (fun h => by cases h) (by decide)).mono ?_
  rintro e x4 ⟨re, Be, rfl, hRe, h1e, h2e, hbe⟩
  have hBe := g_trans (g_alloc g_refl _ : Below x3.heap.size x3 _) hbe
  have He := hid (RB.mk1 (w0 := x3) (by simp) hRe h1e h2e)
  have Ha := hid (Ha.out.below hBe)
  have Hb := hid (Hb.out.below hBe)
  have Hc := hid (Hc.out.below hBe)
  have Hd := hid (Hd.out.below hBe)
  have HB := hid (g_trans HB.out hBe)
  have HSe := hid hBe.size
  clear hRe h1e h2e hbe hBe
  go_wp2_with fail
  refine (of_any (some ⟨x4.heap.size, 0, none⟩) 2 [1, 2] _ (byo2 x4 1 2 1 2 rfl rfl) (by decide) (fun h => by cases h) (by decide)).mono ?_
  rintro e x5 ⟨rf, Bf, rfl, hRf, h1f, h2f, hbf⟩
  have hBf := g_trans (g_alloc g_refl _ : Below x4.heap.size x4 _) hbf
  have Hf := hid (RB.mk1 (w0 := x4) (by simp) hRf h1f h2f)
  have Ha := hid (Ha.out.below hBf)
  have Hb := hid (Hb.out.below hBf)
  have Hc := hid (Hc.out.below hBf)
  have Hd := hid (Hd.out.below hBf)
  have He := hid (He.out.below hBf)
  have HB := hid (g_trans HB.out hBf)
  have HSf := hid hBf.size
  clear hRf h1f h2f hbf hBf
  go_wp2_with fail
  refine (of_any (some ⟨x5.heap.size, 0, none⟩) 2 [5, 97] _ (byo2 x5 5 97 5 97 rfl rfl) (by decide) (fun h => by cases h) (by decide)).mono ?_
  rintro e x6 ⟨rg, Bg, rfl, hRg, h1g, h2g, hbg⟩
  have hBg := g_trans (g_alloc g_refl _ : Below x5.heap.size x5 _) hbg
  have Hg := hid (RB.mk1 (w0 := x5) (by simp) hRg h1g h2g)
  have Ha := hid (Ha.out.below hBg)
  have Hb := hid (Hb.out.below hBg)
  have Hc := hid (Hc.out.below hBg)
  have Hd := hid (Hd.out.below hBg)
  have He := hid (He.out.below hBg)
  have Hf := hid (Hf.out.below hBg)
  have HB := hid (g_trans HB.out hBg)
  have HSg := hid hBg.size
  clear hRg h1g h2g hbg hBg
  go_wp2_with fail
  refine (number_v Ha.out.1 rv_a).mono ?_
  rintro e ya ⟨rfl, hR, hg⟩
  have HQ := hid (show w6.heap.size ≤ ra ∧ ra < x6.heap.size from ⟨by have := HSa.out; have := HSb.out; have := HSc.out; have := HSd.out; have := HSe.out; have := HSf.out; have := HSg.out; have := HZ.out; have := Ha.out.2.1; omega, by have := HSa.out; have := HSb.out; have := HSc.out; have := HSd.out; have := HSe.out; have := HSf.out; have := HSg.out; have := HZ.out; have := Ha.out.2.2.1; omega⟩)
  have HR := hid (show x0.heap.size = x0.heap.size ∧ w6.heap.size ≤ ra ∧ ra < x0.heap.size from ⟨rfl, Ha.out.2.1, Ha.out.2.2.1⟩)
  have Hb := hid (Hb.out.other hg (by have := HSa.out; have := HSb.out; have := HSc.out; have := HSd.out; have := HSe.out; have := HSf.out; have := HSg.out; have := HZ.out; have := HR.out; omega))
  have Hc := hid (Hc.out.other hg (by have := HSa.out; have := HSb.out; have := HSc.out; have := HSd.out; have := HSe.out; have := HSf.out; have := HSg.out; have := HZ.out; have := HR.out; omega))
  have Hd := hid (Hd.out.other hg (by have := HSa.out; have := HSb.out; have := HSc.out; have := HSd.out; have := HSe.out; have := HSf.out; have := HSg.out; have := HZ.out; have := HR.out; omega))
  have He := hid (He.out.other hg (by have := HSa.out; have := HSb.out; have := HSc.out; have := HSd.out; have := HSe.out; have := HSf.out; have := HSg.out; have := HZ.out; have := HR.out; omega))
  have Hf := hid (Hf.out.other hg (by have := HSa.out; have := HSb.out; have := HSc.out; have := HSd.out; have := HSe.out; have := HSf.out; have := HSg.out; have := HZ.out; have := HR.out; omega))
  have Hg := hid (Hg.out.other hg (by have := HSa.out; have := HSb.out; have := HSc.out; have := HSd.out; have := HSe.out; have := HSf.out; have := HSg.out; have := HZ.out; have := HR.out; omega))
  have Ha := hid (Ha.out.next hR)
  have HB := hid (gb_to_below HB.out hg (by have := HQ.out; have := HZ.out; omega))
  clear hR hg HQ HR
  go_wp2_with fail
  refine (number_v Hb.out.1 rv_b).mono ?_
  rintro e yb ⟨rfl, hR, hg⟩
  have HQ := hid (show w6.heap.size ≤ rb ∧ rb < x6.heap.size from ⟨by have := HSa.out; have := HSb.out; have := HSc.out; have := HSd.out; have := HSe.out; have := HSf.out; have := HSg.out; have := HZ.out; have := Hb.out.2.1; omega, by have := HSa.out; have := HSb.out; have := HSc.out; have := HSd.out; have := HSe.out; have := HSf.out; have := HSg.out; have := HZ.out; have := Hb.out.2.2.1; omega⟩)
  have HR := hid (show x1.heap.size = x1.heap.size ∧ x0.heap.size ≤ rb ∧ rb < x1.heap.size from ⟨rfl, Hb.out.2.1, Hb.out.2.2.1⟩)
  have Ha := hid (Ha.out.other hg (by have := HSa.out; have := HSb.out; have := HSc.out; have := HSd.out; have := HSe.out; have := HSf.out; have := HSg.out; have := HZ.out; have := HR.out; omega))
  have Hc := hid (Hc.out.other hg (by have := HSa.out; have := HSb.out; have := HSc.out; have := HSd.out; have := HSe.out; have := HSf.out; have := HSg.out; have := HZ.out; have := HR.out; omega))
  have Hd := hid (Hd.out.other hg (by have := HSa.out; have := HSb.out; have := HSc.out; have := HSd.out; have := HSe.out; have := HSf.out; have := HSg.out; have := HZ.out; have := HR.out; omega))
  have He := hid (He.out.other hg (by have := HSa.out; have := HSb.out; have := HSc.out; have := HSd.out; have := HSe.out; have := HSf.out; have := HSg.out; have := HZ.out; have := HR.out; omega))
  have Hf := hid (Hf.out.other hg (by have := HSa.out; have := HSb.out; have := HSc.out; have := HSd.out; have := HSe.out; have := HSf.out; have := HSg.out; have := HZ.out; have := HR.out; omega))
  have Hg := hid (Hg.out.other hg (by have := HSa.out; have := HSb.out; have := HSc.out; have := HSd.out; have := HSe.out; have := HSf.out; have := HSg.out; have := HZ.out; have := HR.out; omega))
  have Hb := hid (Hb.out.next hR)
  have HB := hid (gb_to_below HB.out hg (by have := HQ.out; have := HZ.out; omega))
  clear hR hg HQ HR
  go_wp2_with fail
  refine (number_v Hc.out.1 rv_c).mono ?_
  rintro e yc ⟨rfl, hR, hg⟩
  have HQ := hid (show w6.heap.size ≤ rc ∧ rc < x6.heap.size from ⟨by have := HSa.out; have := HSb.out; have := HSc.out; have := HSd.out; have := HSe.out; have := HSf.out; have := HSg.out; have := HZ.out; have := Hc.out.2.1; omega, by have := HSa.out; have := HSb.out; have := HSc.out; have := HSd.out; have := HSe.out; have := HSf.out; have := HSg.out; have := HZ.out; have := Hc.out.2.2.1; omega⟩)
  have HR := hid (show x2.heap.size = x2.heap.size ∧ x1.heap.size ≤ rc ∧ rc < x2.heap.size from ⟨rfl, Hc.out.2.1, Hc.out.2.2.1⟩)
  have Ha := hid (Ha.out.other hg (by have := HSa.out; have := HSb.out; have := HSc.out; have := HSd.out; have := HSe.out; have := HSf.out; have := HSg.out; have := HZ.out; have := HR.out; omega))
  have Hb := hid (Hb.out.other hg (by have := HSa.out; have := HSb.out; have := HSc.out; have := HSd.out; have := HSe.out; have := HSf.out; have := HSg.out; have := HZ.out; have := HR.out; omega))
  have Hd := hid (Hd.out.other hg (by have := HSa.out; have := HSb.out; have := HSc.out; have := HSd.out; have := HSe.out; have := HSf.out; have := HSg.out; have := HZ.out; have := HR.out; omega))
  have He := hid (He.out.other hg (by have := HSa.out; have := HSb.out; have := HSc.out; have := HSd.out; have := HSe.out; have := HSf.out; have := HSg.out; have := HZ.out; have := HR.out; omega))
  have Hf := hid (Hf.out.other hg (by have := HSa.out; have := HSb.out; have := HSc.out; have := HSd.out; have := HSe.out; have := HSf.out; have := HSg.out; have := HZ.out; have := HR.out; omega))
  have Hg := hid (Hg.out.other hg (by have := HSa.out; have := HSb.out; have := HSc.out; have := HSd.out; have := HSe.out; have := HSf.out; have := HSg.out; have := HZ.out; have := HR.out; omega))
  have Hc := hid (Hc.out.next hR)
  have HB := hid (gb_to_below HB.out hg (by have := HQ.out; have := HZ.out; omega))
  clear hR hg HQ HR
  go_wp2_with fail
  refine (bool_v Hd.out.1 rv_d false rfl).mono ?_
  rintro e yd ⟨rfl, hR, hg⟩
  have HQ := hid (show w6.heap.size ≤ rd ∧ rd < x6.heap.size from ⟨by have := HSa.out; have := HSb.out; have := HSc.out; have := HSd.out; have := HSe.out; have := HSf.out; have := HSg.out; have := HZ.out; have := Hd.out.2.1; omega, by have := HSa.out; have := HSb.out; have := HSc.out; have := HSd.out; have := HSe.out; have := HSf.out; have := HSg.out; have := HZ.out; have := Hd.out.2.2.1; omega⟩)
  have HR := hid (show x3.heap.size = x3.heap.size ∧ x2.heap.size ≤ rd ∧ rd < x3.heap.size from ⟨rfl, Hd.out.2.1, Hd.out.2.2.1⟩)
  have Ha := hid (Ha.out.other hg (by have := HSa.out; have := HSb.out; have := HSc.out; have := HSd.out; have := HSe.out; have := HSf.out; have := HSg.out; have := HZ.out; have := HR.out; omega))
  have Hb := hid (Hb.out.other hg (by have := HSa.out; have := HSb.out; have := HSc.out; have := HSd.out; have := HSe.out; have := HSf.out; have := HSg.out; have := HZ.out; have := HR.out; omega))
  have Hc := hid (Hc.out.other hg (by have := HSa.out; have := HSb.out; have := HSc.out; have := HSd.out; have := HSe.out; have := HSf.out; have := HSg.out; have := HZ.out; have := HR.out; omega))
  have He := hid (He.out.other hg (by have := HSa.out; have := HSb.out; have := HSc.out; have := HSd.out; have := HSe.out; have := HSf.out; have := HSg.out; have := HZ.out; have := HR.out; omega))
  have Hf := hid (Hf.out.other hg (by have := HSa.out; have := HSb.out; have := HSc.out; have := HSd.out; have := HSe.out; have := HSf.out; have := HSg.out; have := HZ.out; have := HR.out; omega))
  have Hg := hid (Hg.out.other hg (by have := HSa.out; have := HSb.out; have := HSc.out; have := HSd.out; have := HSe.out; have := HSf.out; have := HSg.out; have := HZ.out; have := HR.out; omega))
  have Hd := hid (Hd.out.next hR)
  have HB := hid (gb_to_below HB.out hg (by have := HQ.out; have := HZ.out; omega))
  clear hR hg HQ HR
  go_wp2_with fail
  refine (text_v 4 _ He.out.1 (by decide) rv_e).mono ?_
  rintro e ye ⟨rfl, hR, hg⟩
  have HQ := hid (show w6.heap.size ≤ re ∧ re < x6.heap.size from ⟨by have := HSa.out; have := HSb.out; have := HSc.out; have := HSd.out; have := HSe.out; have := HSf.out; have := HSg.out; have := HZ.out; have := He.out.2.1; omega, by have := HSa.out; have := HSb.out; have := HSc.out; have := HSd.out; have := HSe.out; have := HSf.out; have := HSg.out; have := HZ.out; have := He.out.2.2.1; omega⟩)
  have HR := hid (show x4.heap.size = x4.heap.size ∧ x3.heap.size ≤ re ∧ re < x4.heap.size from ⟨rfl, He.out.2.1, He.out.2.2.1⟩)
  have Ha := hid (Ha.out.other hg (by have := HSa.out; have := HSb.out; have := HSc.out; have := HSd.out; have := HSe.out; have := HSf.out; have := HSg.out; have := HZ.out; have := HR.out; omega))
  have Hb := hid (Hb.out.other hg (by have := HSa.out; have := HSb.out; have := HSc.out; have := HSd.out; have := HSe.out; have := HSf.out; have := HSg.out; have := HZ.out; have := HR.out; omega))
  have Hc := hid (Hc.out.other hg (by have := HSa.out; have := HSb.out; have := HSc.out; have := HSd.out; have := HSe.out; have := HSf.out; have := HSg.out; have := HZ.out; have := HR.out; omega))
  have Hd := hid (Hd.out.other hg (by have := HSa.out; have := HSb.out; have := HSc.out; have := HSd.out; have := HSe.out; have := HSf.out; have := HSg.out; have := HZ.out; have := HR.out; omega))
  have Hf := hid (Hf.out.other hg (by have := HSa.out; have := HSb.out; have := HSc.out; have := HSd.out; have := HSe.out; have := HSf.out; have := HSg.out; have := HZ.out; have := HR.out; omega))
  have Hg := hid (Hg.out.other hg (by have := HSa.out; have := HSb.out; have := HSc.out; have := HSd.out; have := HSe.out; have := HSf.out; have := HSg.out; have := HZ.out; have := HR.out; omega))
  have He := hid (He.out.next hR)
  have HB := hid (gb_to_below HB.out hg (by have := HQ.out; have := HZ.out; omega))
  clear hR hg HQ HR
  go_wp2_with fail
  refine (bool_v Hf.out.1 rv_f true rfl).mono ?_
  rintro e yf ⟨rfl, hR, hg⟩
  have HQ := hid (show w6.heap.size ≤ rf ∧ rf < x6.heap.size from ⟨by have := HSa.out; have := HSb.out; have := HSc.out; have := HSd.out; have := HSe.out; have := HSf.out; have := HSg.out; have := HZ.out; have := Hf.out.2.1; omega, by have := HSa.out; have := HSb.out; have := HSc.out; have := HSd.out; have := HSe.out; have := HSf.out; have := HSg.out; have := HZ.out; have := Hf.out.2.2.1; omega⟩)
  have HR := hid (show x5.heap.size = x5.heap.size ∧ x4.heap.size ≤ rf ∧ rf < x5.heap.size from ⟨rfl, Hf.out.2.1, Hf.out.2.2.1⟩)
  have Ha := hid (Ha.out.other hg (by have := HSa.out; have := HSb.out; have := HSc.out; have := HSd.out; have := HSe.out; have := HSf.out; have := HSg.out; have := HZ.out; have := HR.out; omega))
  have Hb := hid (Hb.out.other hg (by have := HSa.out; have := HSb.out; have := HSc.out; have := HSd.out; have := HSe.out; have := HSf.out; have := HSg.out; have := HZ.out; have := HR.out; omega))
  have Hc := hid (Hc.out.other hg (by have := HSa.out; have := HSb.out; have := HSc.out; have := HSd.out; have := HSe.out; have := HSf.out; have := HSg.out; have := HZ.out; have := HR.out; omega))
  have Hd := hid (Hd.out.other hg (by have := HSa.out; have := HSb.out; have := HSc.out; have := HSd.out; have := HSe.out; have := HSf.out; have := HSg.out; have := HZ.out; have := HR.out; omega))
  have He := hid (He.out.other hg (by have := HSa.out; have := HSb.out; have := HSc.out; have := HSd.out; have := HSe.out; have := HSf.out; have := HSg.out; have := HZ.out; have := HR.out; omega))
  have Hg := hid (Hg.out.other hg (by have := HSa.out; have := HSb.out; have := HSc.out; have := HSd.out; have := HSe.out; have := HSf.out; have := HSg.out; have := HZ.out; have := HR.out; omega))
  have Hf := hid (Hf.out.next hR)
  have HB := hid (gb_to_below HB.out hg (by have := HQ.out; have := HZ.out; omega))
  clear hR hg HQ HR
  go_wp2_with fail
  refine (text_v 5 _ Hg.out.1 (by decide) rv_g).mono ?_
  rintro e yg ⟨rfl, hR, hg⟩
  have HQ := hid (show w6.heap.size ≤ rg ∧ rg < x6.heap.size from ⟨by have := HSa.out; have := HSb.out; have := HSc.out; have := HSd.out; have := HSe.out; have := HSf.out; have := HSg.out; have := HZ.out; have := Hg.out.2.1; omega, by have := HSa.out; have := HSb.out; have := HSc.out; have := HSd.out; have := HSe.out; have := HSf.out; have := HSg.out; have := HZ.out; have := Hg.out.2.2.1; omega⟩)
  have HR := hid (show x6.heap.size = x6.heap.size ∧ x5.heap.size ≤ rg ∧ rg < x6.heap.size from ⟨rfl, Hg.out.2.1, Hg.out.2.2.1⟩)
  have Ha := hid (Ha.out.other hg (by have := HSa.out; have := HSb.out; have := HSc.out; have := HSd.out; have := HSe.out; have := HSf.out; have := HSg.out; have := HZ.out; have := HR.out; omega))
  have Hb := hid (Hb.out.other hg (by have := HSa.out; have := HSb.out; have := HSc.out; have := HSd.out; have := HSe.out; have := HSf.out; have := HSg.out; have := HZ.out; have := HR.out; omega))
  have Hc := hid (Hc.out.other hg (by have := HSa.out; have := HSb.out; have := HSc.out; have := HSd.out; have := HSe.out; have := HSf.out; have := HSg.out; have := HZ.out; have := HR.out; omega))
  have Hd := hid (Hd.out.other hg (by have := HSa.out; have := HSb.out; have := HSc.out; have := HSd.out; have := HSe.out; have := HSf.out; have := HSg.out; have := HZ.out; have := HR.out; omega))
  have He := hid (He.out.other hg (by have := HSa.out; have := HSb.out; have := HSc.out; have := HSd.out; have := HSe.out; have := HSf.out; have := HSg.out; have := HZ.out; have := HR.out; omega))
  have Hf := hid (Hf.out.other hg (by have := HSa.out; have := HSb.out; have := HSc.out; have := HSd.out; have := HSe.out; have := HSf.out; have := HSg.out; have := HZ.out; have := HR.out; omega))
  have Hg := hid (Hg.out.next hR)
  have HB := hid (gb_to_below HB.out hg (by have := HQ.out; have := HZ.out; omega))
  clear hR hg HQ HR
  go_wp2
  have hLK : LK (((yg.alloc (.cells #[.int .i64 1, .int .i64 1, .int .i64 0, .int .i64 0, .int .i64 1, .int .i64 2] 68)).alloc (.cells #[.int .i64 17, .int .i64 5, .int .i64 5, .int .i64 3, .int .i64 5, .int .i64 17] 69)).alloc (.cells #[.pointer (some ⟨rb, 0, none⟩), .pointer (some ⟨rc, 0, none⟩), .pointer (some ⟨rd, 0, none⟩), .pointer (some ⟨re, 0, none⟩), .pointer (some ⟨rf, 0, none⟩), .pointer (some ⟨rg, 0, none⟩)] 36)) yg.heap.size rb rc rd re rf rg := by
    simp only [LK]
    exact ⟨by go_simp, by go_simp, by go_simp, by go_simp, by go_simp, by go_simp, by go_simp, by go_simp, by go_simp, by go_simp, by go_simp, by go_simp, by go_simp, by go_simp, by go_simp, by go_simp, by go_simp, by go_simp, by simp⟩
  have hBW : Below yg.heap.size yg (((yg.alloc (.cells #[.int .i64 1, .int .i64 1, .int .i64 0, .int .i64 0, .int .i64 1, .int .i64 2] 68)).alloc (.cells #[.int .i64 17, .int .i64 5, .int .i64 5, .int .i64 3, .int .i64 5, .int .i64 17] 69)).alloc (.cells #[.pointer (some ⟨rb, 0, none⟩), .pointer (some ⟨rc, 0, none⟩), .pointer (some ⟨rd, 0, none⟩), .pointer (some ⟨re, 0, none⟩), .pointer (some ⟨rf, 0, none⟩), .pointer (some ⟨rg, 0, none⟩)] 36)) := g_alloc (g_alloc (g_alloc g_refl _) _) _
  have Ha := hid (Ha.out.below hBW)
  have Hb := hid (Hb.out.below hBW)
  have Hc := hid (Hc.out.below hBW)
  have Hd := hid (Hd.out.below hBW)
  have He := hid (He.out.below hBW)
  have Hf := hid (Hf.out.below hBW)
  have Hg := hid (Hg.out.below hBW)
  have HB := hid (g_trans HB.out hBW)
  clear hBW
  have HLK := hid hLK
  clear hLK
  generalize (((yg.alloc (.cells #[.int .i64 1, .int .i64 1, .int .i64 0, .int .i64 0, .int .i64 1, .int .i64 2] 68)).alloc (.cells #[.int .i64 17, .int .i64 5, .int .i64 5, .int .i64 3, .int .i64 5, .int .i64 17] 69)).alloc (.cells #[.pointer (some ⟨rb, 0, none⟩), .pointer (some ⟨rc, 0, none⟩), .pointer (some ⟨rd, 0, none⟩), .pointer (some ⟨re, 0, none⟩), .pointer (some ⟨rf, 0, none⟩), .pointer (some ⟨rg, 0, none⟩)] 36)) = W0 at *
  generalize yg.heap.size = t at *
  go_loopg [12] 6 (fun n i wr => ∃ k : Nat, n = 6 - k ∧ k ≤ 6 ∧ i = .int .i64 k ∧ Below W0.heap.size W0 wr)
  case atStart => exact ⟨0, rfl, by omega, rfl, g_refl⟩
  case round =>
    obtain ⟨k, hk, hk6, rfl, hW⟩ := hrel
    have HW := hid hW
    have HK := hid hk
    have HU := hid (HLK.out.below hW)
    clear hW hk
    rcases (show k = 0 ∨ k = 1 ∨ k = 2 ∨ k = 3 ∨ k = 4 ∨ k = 5 ∨ k = 6 by omega) with rfl | rfl | rfl | rfl | rfl | rfl | rfl <;> clear hk6
    · obtain ⟨c0, c1, c2, c3, c4, c5, c6, c7, c8, c9, c10, c11, c12, c13, c14, c15, c16, c17, cs⟩ := HU.out
      clear c0 c1 c2 c3 c4 c5 c6 c7 c8 c9 c10 c11 c13 c14 c15 c16 c17 cs
      go_wp2_with fail
      refine (end_v (Hb.out.1.below HW.out) 1 17 (by decide +kernel)).mono ?_
      rintro e z ⟨rfl, hz⟩
      have HV := hid (HU.out.below hz)
      have HY := hid (g_trans HW.out hz)
      clear hz c12
      obtain ⟨c0, c1, c2, c3, c4, c5, c6, c7, c8, c9, c10, c11, c12, c13, c14, c15, c16, c17, cs⟩ := HV.out
      clear c1 c2 c3 c4 c5 c7 c8 c9 c10 c11 c12 c13 c14 c15 c16 c17 cs
      go_wp2
      go_roundg (6 - (0 + 1))
      case measure => have := HK.out; omega
      case rel => exact ⟨0 + 1, rfl, by omega, by go_num, HY.out⟩
    · obtain ⟨c0, c1, c2, c3, c4, c5, c6, c7, c8, c9, c10, c11, c12, c13, c14, c15, c16, c17, cs⟩ := HU.out
      clear c0 c1 c2 c3 c4 c5 c6 c7 c8 c9 c10 c11 c12 c14 c15 c16 c17 cs
      go_wp2_with fail
      refine (end_v (Hc.out.1.below HW.out) 1 5 (by decide +kernel)).mono ?_
      rintro e z ⟨rfl, hz⟩
      have HV := hid (HU.out.below hz)
      have HY := hid (g_trans HW.out hz)
      clear hz c13
      obtain ⟨c0, c1, c2, c3, c4, c5, c6, c7, c8, c9, c10, c11, c12, c13, c14, c15, c16, c17, cs⟩ := HV.out
      clear c0 c2 c3 c4 c5 c6 c8 c9 c10 c11 c12 c13 c14 c15 c16 c17 cs
      go_wp2
      go_roundg (6 - (1 + 1))
      case measure => have := HK.out; omega
      case rel => exact ⟨1 + 1, rfl, by omega, by go_num, HY.out⟩
    · obtain ⟨c0, c1, c2, c3, c4, c5, c6, c7, c8, c9, c10, c11, c12, c13, c14, c15, c16, c17, cs⟩ := HU.out
      clear c0 c1 c2 c3 c4 c5 c6 c7 c8 c9 c10 c11 c12 c13 c15 c16 c17 cs
      go_wp2_with fail
      refine (end_v (Hd.out.1.below HW.out) 0 5 (by decide +kernel)).mono ?_
      rintro e z ⟨rfl, hz⟩
      have HV := hid (HU.out.below hz)
      have HY := hid (g_trans HW.out hz)
      clear hz c14
      obtain ⟨c0, c1, c2, c3, c4, c5, c6, c7, c8, c9, c10, c11, c12, c13, c14, c15, c16, c17, cs⟩ := HV.out
      clear c0 c1 c3 c4 c5 c6 c7 c9 c10 c11 c12 c13 c14 c15 c16 c17 cs
      go_wp2
      go_roundg (6 - (2 + 1))
      case measure => have := HK.out; omega
      case rel => exact ⟨2 + 1, rfl, by omega, by go_num, HY.out⟩
    · obtain ⟨c0, c1, c2, c3, c4, c5, c6, c7, c8, c9, c10, c11, c12, c13, c14, c15, c16, c17, cs⟩ := HU.out
      clear c0 c1 c2 c3 c4 c5 c6 c7 c8 c9 c10 c11 c12 c13 c14 c16 c17 cs
      go_wp2_with fail
      refine (end_v (He.out.1.below HW.out) 0 3 (by decide +kernel)).mono ?_
      rintro e z ⟨rfl, hz⟩
      have HV := hid (HU.out.below hz)
      have HY := hid (g_trans HW.out hz)
      clear hz c15
      obtain ⟨c0, c1, c2, c3, c4, c5, c6, c7, c8, c9, c10, c11, c12, c13, c14, c15, c16, c17, cs⟩ := HV.out
      clear c0 c1 c2 c4 c5 c6 c7 c8 c10 c11 c12 c13 c14 c15 c16 c17 cs
      go_wp2
      go_roundg (6 - (3 + 1))
      case measure => have := HK.out; omega
      case rel => exact ⟨3 + 1, rfl, by omega, by go_num, HY.out⟩
    · obtain ⟨c0, c1, c2, c3, c4, c5, c6, c7, c8, c9, c10, c11, c12, c13, c14, c15, c16, c17, cs⟩ := HU.out
      clear c0 c1 c2 c3 c4 c5 c6 c7 c8 c9 c10 c11 c12 c13 c14 c15 c17 cs
      go_wp2_with fail
      refine (end_v (Hf.out.1.below HW.out) 1 5 (by decide +kernel)).mono ?_
      rintro e z ⟨rfl, hz⟩
      have HV := hid (HU.out.below hz)
      have HY := hid (g_trans HW.out hz)
      clear hz c16
      obtain ⟨c0, c1, c2, c3, c4, c5, c6, c7, c8, c9, c10, c11, c12, c13, c14, c15, c16, c17, cs⟩ := HV.out
      clear c0 c1 c2 c3 c5 c6 c7 c8 c9 c11 c12 c13 c14 c15 c16 c17 cs
      go_wp2
      go_roundg (6 - (4 + 1))
      case measure => have := HK.out; omega
      case rel => exact ⟨4 + 1, rfl, by omega, by go_num, HY.out⟩
    · obtain ⟨c0, c1, c2, c3, c4, c5, c6, c7, c8, c9, c10, c11, c12, c13, c14, c15, c16, c17, cs⟩ := HU.out
      clear c0 c1 c2 c3 c4 c5 c6 c7 c8 c9 c10 c11 c12 c13 c14 c15 c16 cs
      go_wp2_with fail
      refine (end_v (Hg.out.1.below HW.out) 2 17 (by decide +kernel)).mono ?_
      rintro e z ⟨rfl, hz⟩
      have HV := hid (HU.out.below hz)
      have HY := hid (g_trans HW.out hz)
      clear hz c17
      obtain ⟨c0, c1, c2, c3, c4, c5, c6, c7, c8, c9, c10, c11, c12, c13, c14, c15, c16, c17, cs⟩ := HV.out
      clear c0 c1 c2 c3 c4 c6 c7 c8 c9 c10 c12 c13 c14 c15 c16 c17 cs
      go_wp2
      go_roundg (6 - (5 + 1))
      case measure => have := HK.out; omega
      case rel => exact ⟨5 + 1, rfl, by omega, by go_num, HY.out⟩
    · go_wp2_with fail
      refine (end_v (Ha.out.1.below HW.out) 0 0 (by decide +kernel)).mono ?_
      rintro e z ⟨rfl, hz⟩
      have HY := hid (g_trans (g_trans HB.out HW.out) hz)
      clear hz
      go_wp2
      go_ret
      exact ⟨rfl, HY.out⟩
end Go.Proofs.Ytohnhjmiblgkkaa
