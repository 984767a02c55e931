/-
  THE CONTRACT of V.put of layer 4's law.
-/
import Derived.Test.YtohnhjmiblgkkaaCVqu
namespace Go.Proofs.Ytohnhjmiblgkkaa
open Go.RowKit

/-- the bool of a number -/
def vb (n : Nat) : Bool := (n : Int) % 2 == 1
/-- the form of a value -/
def vform (K n : Nat) (a b c d e f : ByteArray) : List UInt8 :=
  if K % 12 = 0 then num n else if K % 12 = 1 then num n else if K % 12 = 2 then num (n % 256) else if K % 12 = 3 then num (bit (vb n)) else if K % 12 = 4 then tforms [a]
  else if K % 12 = 5 then tforms [a, b] else if K % 12 = 6 then tforms [a, b, c] else if K % 12 = 7 then tforms [d, e, f] else if K % 12 = 8 then tforms [a, b, c, d, e, f]
  else if K % 12 = 9 then tforms [a, b, c, d, e, f] ++ num (bit (vb n)) else if K % 12 = 10 then tforms [a, b, c, d, e, f] ++ num (bit (vb n)) else num (n % 256) ++ tforms [a, b, c, d, e]
theorem wrap_back {n : Nat} (h : n < 18446744073709551616) : IntKind.u64.wrap (wrap64 (n : Int)) = (n : Int) := by
  simp [IntKind.wrap, IntKind.signed, IntKind.bits, wrap64]; omega
theorem vform_0 {K n : Nat} {a b c d e f : ByteArray} (h : K % 12 = 0) : vform K n a b c d e f = num n := by simp [vform, h]
theorem vform_1 {K n : Nat} {a b c d e f : ByteArray} (h : K % 12 = 1) : vform K n a b c d e f = num n := by simp [vform, h]
theorem vform_2 {K n : Nat} {a b c d e f : ByteArray} (h : K % 12 = 2) : vform K n a b c d e f = num (n % 256) := by simp [vform, h]
theorem vform_3 {K n : Nat} {a b c d e f : ByteArray} (h : K % 12 = 3) : vform K n a b c d e f = num (bit (vb n)) := by simp [vform, h]
theorem vform_4 {K n : Nat} {a b c d e f : ByteArray} (h : K % 12 = 4) : vform K n a b c d e f = tforms [a] := by simp [vform, h]
theorem vform_5 {K n : Nat} {a b c d e f : ByteArray} (h : K % 12 = 5) : vform K n a b c d e f = tforms [a, b] := by simp [vform, h]
theorem vform_6 {K n : Nat} {a b c d e f : ByteArray} (h : K % 12 = 6) : vform K n a b c d e f = tforms [a, b, c] := by simp [vform, h]
theorem vform_7 {K n : Nat} {a b c d e f : ByteArray} (h : K % 12 = 7) : vform K n a b c d e f = tforms [d, e, f] := by simp [vform, h]
theorem vform_8 {K n : Nat} {a b c d e f : ByteArray} (h : K % 12 = 8) : vform K n a b c d e f = tforms [a, b, c, d, e, f] := by simp [vform, h]
theorem vform_9 {K n : Nat} {a b c d e f : ByteArray} (h : K % 12 = 9) : vform K n a b c d e f = tforms [a, b, c, d, e, f] ++ num (bit (vb n)) := by simp [vform, h]
theorem vform_10 {K n : Nat} {a b c d e f : ByteArray} (h : K % 12 = 10) : vform K n a b c d e f = tforms [a, b, c, d, e, f] ++ num (bit (vb n)) := by simp [vform, h]
theorem vform_11 {K n : Nat} {a b c d e f : ByteArray} (h : K % 12 = 11) : vform K n a b c d e f = num (n % 256) ++ tforms [a, b, c, d, e] := by simp [vform, h]

set_option maxRecDepth 20000 in
set_option maxHeartbeats 3000000 in
theorem vput_any (p : Option Addr) (base k : Nat) (v : Value) (L : List UInt8) (K n : Nat) (hn : n < 18446744073709551616) (a b c d e f : ByteArray) (w : World) (h : WXR w p base v L (k + 6070)) (ha : Sm p a) (hb : Sm p b) (hc : Sm p c) (hd : Sm p d) (he : Sm p e) (hf : Sm p f) :
    Calls Try.prog 10 #[.agg #[.int .u8 (K : Int), .int .u64 (n : Int), .string a, .string b, .string c, .string d, .string e, .string f], .pointer p] w (XPost w p base v L (vform K n a b c d e f) k) := by
  have H := hid h
  have HS := hid (And.intro ha (And.intro hb (And.intro hc (And.intro hd (And.intro he hf)))))
  have HN := hid hn
  have HB0 := hid (show Below w.heap.size w (w.alloc (.cells #[.int .u8 (K : Int), .int .u64 (n : Int), .string a, .string b, .string c, .string d, .string e, .string f] 31)) from g_alloc g_refl _)
  have hn2 : (n : Int) < 18446744073709551616 := by omega
  clear h ha hb hc hd he hf hn
  go_enter Try.func10, Try.ntmps10
  go_wp2_with fail
  refine (vtuple_any K n a b c d e f _).mono ?_
  rintro x w1 ⟨rfl, hb1⟩
  have m0 : w1.cell? ⟨w.heap.size, 0, none⟩ = some (.int .u8 (K : Int)) := (hb1.cell (p := ⟨w.heap.size, 0, none⟩) (by simp)).trans (by go_simp)
  have m1 : w1.cell? ⟨w.heap.size, 1, none⟩ = some (.int .u64 (n : Int)) := (hb1.cell (p := ⟨w.heap.size, 1, none⟩) (by simp)).trans (by go_simp)
  have m2 : w1.cell? ⟨w.heap.size, 2, none⟩ = some (.string a) := (hb1.cell (p := ⟨w.heap.size, 2, none⟩) (by simp)).trans (by go_simp)
  have m3 : w1.cell? ⟨w.heap.size, 3, none⟩ = some (.string b) := (hb1.cell (p := ⟨w.heap.size, 3, none⟩) (by simp)).trans (by go_simp)
  have m4 : w1.cell? ⟨w.heap.size, 4, none⟩ = some (.string c) := (hb1.cell (p := ⟨w.heap.size, 4, none⟩) (by simp)).trans (by go_simp)
  have m5 : w1.cell? ⟨w.heap.size, 5, none⟩ = some (.string d) := (hb1.cell (p := ⟨w.heap.size, 5, none⟩) (by simp)).trans (by go_simp)
  have m6 : w1.cell? ⟨w.heap.size, 6, none⟩ = some (.string e) := (hb1.cell (p := ⟨w.heap.size, 6, none⟩) (by simp)).trans (by go_simp)
  have m7 : w1.cell? ⟨w.heap.size, 7, none⟩ = some (.string f) := (hb1.cell (p := ⟨w.heap.size, 7, none⟩) (by simp)).trans (by go_simp)
  have hl0 : w.heap.size < w1.heap.size := by have := hb1.size; simp at this; omega
  have HB2 := hid (show Below w.heap.size w (w1.alloc (.cells #[.string a, .string b, .string c, .string d, .string e, .string f] 75)) from g_alloc (g_trans HB0.out hb1) _)
  have HW := hid (H.out.below HB2.out)
  clear hb1
  rcases (show K % 12 = 0 ∨ K % 12 = 1 ∨ K % 12 = 2 ∨ K % 12 = 3 ∨ K % 12 = 4 ∨ K % 12 = 5 ∨ K % 12 = 6 ∨ K % 12 = 7 ∨ K % 12 = 8 ∨ K % 12 = 9 ∨ K % 12 = 10 ∨ K % 12 = 11 by omega) with hk | hk | hk | hk | hk | hk | hk | hk | hk | hk | hk | hk
  · as_aux_lemma =>
    have HK := hid (vform_0 (n := n) (a := a) (b := b) (c := c) (d := d) (e := e) (f := f) hk)
    have hk2 : (K : Int) % 12 = 0 := by omega
    clear hk m2 m3 m4 m5 m6 m7
    go_wp2_with fail
    refine (xnumber p base k v L n HN.out _ (WXR.less HW.out (by omega))).mono ?_
    rintro x w2 ⟨rfl, v2, h1, h2⟩
    have H1 := hid h1
    have H2 := hid h2
    clear h1 h2
    go_wp2
    go_end0
    unfold XPost
    rw [HK.out]
    exact ⟨rfl, v2, H1.out, (WCX.below HB2.out H.out.1.shape).trans H2.out⟩
  · as_aux_lemma =>
    have HK := hid (vform_1 (n := n) (a := a) (b := b) (c := c) (d := d) (e := e) (f := f) hk)
    have hk2 : (K : Int) % 12 = 1 := by omega
    clear hk m2 m3 m4 m5 m6 m7
    go_wp2_with fail
    refine (xint p base k v L _ n (wrap_back HN.out) HN.out _ (WXR.less HW.out (by omega))).mono ?_
    rintro x w2 ⟨rfl, v2, h1, h2⟩
    have H1 := hid h1
    have H2 := hid h2
    clear h1 h2
    go_wp2
    go_end0
    unfold XPost
    rw [HK.out]
    exact ⟨rfl, v2, H1.out, (WCX.below HB2.out H.out.1.shape).trans H2.out⟩
  · as_aux_lemma =>
    have HK := hid (vform_2 (n := n) (a := a) (b := b) (c := c) (d := d) (e := e) (f := f) hk)
    have hk2 : (K : Int) % 12 = 2 := by omega
    clear hk m2 m3 m4 m5 m6 m7
    go_wp2_with fail
    refine Calls.mono (P := Try.prog) (f := 32) (args := #[.pointer p, .int .u8 ((n % 256 : Nat) : Int)]) (xsmall p base k v L (n % 256) (Nat.mod_lt _ (by decide)) _ (WXR.less HW.out (by omega))) ?_
    rintro x w2 ⟨rfl, v2, h1, h2⟩
    have H1 := hid h1
    have H2 := hid h2
    clear h1 h2
    go_wp2
    go_end0
    unfold XPost
    rw [HK.out]
    exact ⟨rfl, v2, H1.out, (WCX.below HB2.out H.out.1.shape).trans H2.out⟩
  · as_aux_lemma =>
    have HK := hid (vform_3 (n := n) (a := a) (b := b) (c := c) (d := d) (e := e) (f := f) hk)
    have hk2 : (K : Int) % 12 = 3 := by omega
    clear hk m2 m3 m4 m5 m6 m7
    go_wp2_with fail
    refine (xbool p base k v L _ _ (WXR.less HW.out (by omega))).mono ?_
    rintro x w2 ⟨rfl, v2, h1, h2⟩
    have H1 := hid h1
    have H2 := hid h2
    clear h1 h2
    go_wp2
    go_end0
    unfold XPost
    rw [HK.out]
    exact ⟨rfl, v2, H1.out, (WCX.below HB2.out H.out.1.shape).trans H2.out⟩
  · as_aux_lemma =>
    have HK := hid (vform_4 (n := n) (a := a) (b := b) (c := c) (d := d) (e := e) (f := f) hk)
    have hk2 : (K : Int) % 12 = 4 := by omega
    clear hk m1 m3 m4 m5 m6 m7
    go_wp2_with fail
    refine (xtext p base k v L a _ (WXR.less HW.out (by omega)) HS.out.1).mono ?_
    rintro x w2 ⟨rfl, v2, h1, h2⟩
    have H1 := hid h1
    have H2 := hid h2
    clear h1 h2
    go_wp2
    go_end0
    unfold XPost
    rw [HK.out]
    exact ⟨rfl, v2, by have := H1.out; simpa [tforms] using this, (WCX.below HB2.out H.out.1.shape).trans H2.out⟩
  · as_aux_lemma =>
    have HK := hid (vform_5 (n := n) (a := a) (b := b) (c := c) (d := d) (e := e) (f := f) hk)
    have hk2 : (K : Int) % 12 = 5 := by omega
    clear hk m1 m2 m3 m4 m5 m6 m7
    go_wp2_with fail
    refine (xobject p base k v L a b _ (WXR.less HW.out (by omega)) HS.out.1 HS.out.2.1).mono ?_
    rintro x w2 ⟨rfl, v2, h1, h2⟩
    have H1 := hid h1
    have H2 := hid h2
    clear h1 h2
    go_wp2
    go_end0
    unfold XPost
    rw [HK.out]
    exact ⟨rfl, v2, H1.out, (WCX.below HB2.out H.out.1.shape).trans H2.out⟩
  · as_aux_lemma =>
    have HK := hid (vform_6 (n := n) (a := a) (b := b) (c := c) (d := d) (e := e) (f := f) hk)
    have hk2 : (K : Int) % 12 = 6 := by omega
    clear hk m1 m2 m3 m4 m5 m6 m7
    go_wp2_with fail
    refine (xgoal p base k v L a b c _ (WXR.less HW.out (by omega)) HS.out.1 HS.out.2.1 HS.out.2.2.1).mono ?_
    rintro x w2 ⟨rfl, v2, h1, h2⟩
    have H1 := hid h1
    have H2 := hid h2
    clear h1 h2
    go_wp2
    go_end0
    unfold XPost
    rw [HK.out]
    exact ⟨rfl, v2, H1.out, (WCX.below HB2.out H.out.1.shape).trans H2.out⟩
  · as_aux_lemma =>
    have HK := hid (vform_7 (n := n) (a := a) (b := b) (c := c) (d := d) (e := e) (f := f) hk)
    have hk2 : (K : Int) % 12 = 7 := by omega
    clear hk m1 m2 m3 m4 m5 m6 m7
    go_wp2_with fail
    refine (xsubject p base k v L d e f _ (WXR.less HW.out (by omega)) HS.out.2.2.2.1 HS.out.2.2.2.2.1 HS.out.2.2.2.2.2).mono ?_
    rintro x w2 ⟨rfl, v2, h1, h2⟩
    have H1 := hid h1
    have H2 := hid h2
    clear h1 h2
    go_wp2
    go_end0
    unfold XPost
    rw [HK.out]
    exact ⟨rfl, v2, H1.out, (WCX.below HB2.out H.out.1.shape).trans H2.out⟩
  · as_aux_lemma =>
    have HK := hid (vform_8 (n := n) (a := a) (b := b) (c := c) (d := d) (e := e) (f := f) hk)
    have hk2 : (K : Int) % 12 = 8 := by omega
    clear hk m1 m2 m3 m4 m5 m6 m7
    go_wp2_with fail
    refine (xtuple p base k v L a b c d e f _ (WXR.less HW.out (by omega)) HS.out.1 HS.out.2.1 HS.out.2.2.1 HS.out.2.2.2.1 HS.out.2.2.2.2.1 HS.out.2.2.2.2.2).mono ?_
    rintro x w2 ⟨rfl, v2, h1, h2⟩
    have H1 := hid h1
    have H2 := hid h2
    clear h1 h2
    go_wp2
    go_end0
    unfold XPost
    rw [HK.out]
    exact ⟨rfl, v2, H1.out, (WCX.below HB2.out H.out.1.shape).trans H2.out⟩
  · have HK := hid (vform_9 (n := n) (a := a) (b := b) (c := c) (d := d) (e := e) (f := f) hk)
    have hk2 : (K : Int) % 12 = 9 := by omega
    clear hk m2 m3 m4 m5 m6 m7
    rcases (show (n : Int) % 2 = 0 ∨ (n : Int) % 2 = 1 by omega) with hz | hz
    · have HVB := hid (show vb n = false by unfold vb; rw [hz]; rfl)
      go_wp2_with fail
      have hx := xchange p base k v L a b c d e f false _ (WXR.less HW.out (by omega)) HS.out.1 HS.out.2.1 HS.out.2.2.1 HS.out.2.2.2.1 HS.out.2.2.2.2.1 HS.out.2.2.2.2.2
      with_reducible refine Calls.mono hx ?_
      rintro x w2 ⟨rfl, v2, h1, h2⟩
      have H1 := hid h1
      have H2 := hid h2
      clear h1 h2
      go_wp2
      go_end0
      unfold XPost
      rw [HK.out, HVB.out]
      exact ⟨rfl, v2, H1.out, (WCX.below HB2.out H.out.1.shape).trans H2.out⟩
    · have HVB := hid (show vb n = true by unfold vb; rw [hz]; rfl)
      go_wp2_with fail
      have hx := xchange p base k v L a b c d e f true _ (WXR.less HW.out (by omega)) HS.out.1 HS.out.2.1 HS.out.2.2.1 HS.out.2.2.2.1 HS.out.2.2.2.2.1 HS.out.2.2.2.2.2
      with_reducible refine Calls.mono hx ?_
      rintro x w2 ⟨rfl, v2, h1, h2⟩
      have H1 := hid h1
      have H2 := hid h2
      clear h1 h2
      go_wp2
      go_end0
      unfold XPost
      rw [HK.out, HVB.out]
      exact ⟨rfl, v2, H1.out, (WCX.below HB2.out H.out.1.shape).trans H2.out⟩
  · have HK := hid (vform_10 (n := n) (a := a) (b := b) (c := c) (d := d) (e := e) (f := f) hk)
    have hk2 : (K : Int) % 12 = 10 := by omega
    clear hk m2 m3 m4 m5 m6 m7
    rcases (show (n : Int) % 2 = 0 ∨ (n : Int) % 2 = 1 by omega) with hz | hz
    · have HVB := hid (show vb n = false by unfold vb; rw [hz]; rfl)
      go_wp2_with fail
      have hx := xmust p base k v L a b c d e f false _ (WXR.less HW.out (by omega)) HS.out.1 HS.out.2.1 HS.out.2.2.1 HS.out.2.2.2.1 HS.out.2.2.2.2.1 HS.out.2.2.2.2.2
      with_reducible refine Calls.mono hx ?_
      rintro x w2 ⟨rfl, v2, h1, h2⟩
      have H1 := hid h1
      have H2 := hid h2
      clear h1 h2
      go_wp2
      go_end0
      unfold XPost
      rw [HK.out, HVB.out]
      exact ⟨rfl, v2, H1.out, (WCX.below HB2.out H.out.1.shape).trans H2.out⟩
    · have HVB := hid (show vb n = true by unfold vb; rw [hz]; rfl)
      go_wp2_with fail
      have hx := xmust p base k v L a b c d e f true _ (WXR.less HW.out (by omega)) HS.out.1 HS.out.2.1 HS.out.2.2.1 HS.out.2.2.2.1 HS.out.2.2.2.2.1 HS.out.2.2.2.2.2
      with_reducible refine Calls.mono hx ?_
      rintro x w2 ⟨rfl, v2, h1, h2⟩
      have H1 := hid h1
      have H2 := hid h2
      clear h1 h2
      go_wp2
      go_end0
      unfold XPost
      rw [HK.out, HVB.out]
      exact ⟨rfl, v2, H1.out, (WCX.below HB2.out H.out.1.shape).trans H2.out⟩
  · as_aux_lemma =>
    have HK := hid (vform_11 (n := n) (a := a) (b := b) (c := c) (d := d) (e := e) (f := f) hk)
    have hk2 : (K : Int) % 12 = 11 := by omega
    clear hk
    go_wp2_with fail
    refine (vquery_any K n HN.out a b c d e f _).mono ?_
    rintro x wq ⟨rfl, hbq⟩
    have HBQ := hid hbq
    clear hbq
    go_wp2_with fail
    refine Calls.mono (P := Try.prog) (f := 39) (args := #[.pointer p, .agg #[.int .u8 ((n % 256 : Nat) : Int), .string a, .string b, .string c, .string d, .string e]]) (xquery p base k v L (n % 256) (Nat.mod_lt _ (by decide)) a b c d e _ (WXR.less (HW.out.below HBQ.out) (by omega)) HS.out.1 HS.out.2.1 HS.out.2.2.1 HS.out.2.2.2.1 HS.out.2.2.2.2.1) ?_
    rintro x w2 ⟨rfl, v2, h1, h2⟩
    have H1 := hid h1
    have H2 := hid h2
    clear h1 h2
    go_wp2
    go_end0
    unfold XPost
    rw [HK.out]
    exact ⟨rfl, v2, H1.out, (WCX.below (g_trans HB2.out HBQ.out) H.out.1.shape).trans H2.out⟩
end Go.Proofs.Ytohnhjmiblgkkaa
