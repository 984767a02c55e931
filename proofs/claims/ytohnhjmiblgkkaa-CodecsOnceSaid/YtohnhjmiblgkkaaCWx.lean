/-
  THE CONTRACTS of a Writer's methods, of a writer or of a nil one: what is written; a nil one writes nothing.
-/
import Derived.Test.YtohnhjmiblgkkaaCTxs
import Derived.Deep.LoopGhost
namespace Go.Proofs.Ytohnhjmiblgkkaa
open Go.RowKit

/-- a writer, or none -/
def WX (w : World) (p : Option Addr) (base : Nat) (v : Value) (L : List UInt8) : Prop :=
  p = none ∨ ∃ r, p = some ⟨r, 0, none⟩ ∧ WS w r base v L ∧ L.length ≤ 900000 ∧ base ≤ w.heap.size
/-- what a call on it leaves -/
def WCX (w w' : World) (p : Option Addr) (v v' : Value) : Prop :=
  (p = none ∧ Below w.heap.size w w' ∧ v' = v) ∨ ∃ r, p = some ⟨r, 0, none⟩ ∧ WC w w' r v v'
/-- a text is not too long for a writer -/
def Sm (p : Option Addr) (s : ByteArray) : Prop := p = none ∨ s.size ≤ 1000
/-- there is room for so many bytes more -/
def WXR (w : World) (p : Option Addr) (base : Nat) (v : Value) (L : List UInt8) (k : Nat) : Prop := WX w p base v L ∧ (p = none ∨ L.length + k ≤ 900000)
def XPost (w : World) (p : Option Addr) (base : Nat) (v : Value) (L M : List UInt8) (k : Nat) (e : Ending) (w' : World) : Prop :=
  e = .returned (.tuple #[]) ∧ ∃ v', WXR w' p base v' (L ++ M) k ∧ WCX w w' p v v'
section
variable {w w' a b c : World} {p : Option Addr} {base k j : Nat} {v u x : Value} {L M : List UInt8}
theorem WCX.trans (h : WCX a b p u v) (q : WCX b c p v x) : WCX a c p u x := by
  rcases h with ⟨h1, h2, h3⟩ | ⟨r, h1, h2⟩
  · rcases q with ⟨q1, q2, q3⟩ | ⟨r, q1, q2⟩
    · exact .inl ⟨h1, g_trans h2 q2, q3.trans h3⟩
    · rw [h1] at q1; cases q1
  · rcases q with ⟨q1, q2, q3⟩ | ⟨r', q1, q2⟩
    · rw [h1] at q1; cases q1
    · rw [h1] at q1; injection q1 with q1; injection q1 with q1; subst q1
      exact .inr ⟨r, h1, h2.trans q2⟩
theorem WCX.size (h : WCX w w' p v u) : w.heap.size ≤ w'.heap.size := by
  rcases h with ⟨_, h, _⟩ | ⟨_, _, h⟩
  · exact h.size
  · exact h.size
theorem WCX.below (hb : Below w.heap.size w w') (h : p = none ∨ ∃ r, p = some ⟨r, 0, none⟩) : WCX w w' p v v := by
  rcases h with h | ⟨r, h⟩
  · exact .inl ⟨h, hb, rfl⟩
  · exact .inr ⟨r, h, WC.below hb⟩
theorem WX.shape (h : WX w p base v L) : p = none ∨ ∃ r, p = some ⟨r, 0, none⟩ := by
  rcases h with h | ⟨r, h, _⟩
  · exact .inl h
  · exact .inr ⟨r, h⟩
theorem WX.below (h : WX w p base v L) (hb : Below w.heap.size w w') : WX w' p base v L := by
  rcases h with h | ⟨r, h, hs, hl, hbs⟩
  · exact .inl h
  · exact .inr ⟨r, h, hs.below hb, hl, Nat.le_trans hbs hb.size⟩
theorem WXR.below (h : WXR w p base v L k) (hb : Below w.heap.size w w') : WXR w' p base v L k := ⟨h.1.below hb, h.2⟩
theorem WXR.less (h : WXR w p base v L k) (hj : j ≤ k) : WXR w p base v L j := ⟨h.1, h.2.imp id (fun h => by omega)⟩
/-- a block that a writer does not own -/
def Apart (p : Option Addr) (v : Value) (k : Nat) : Prop := p = none ∨ ∃ r, p = some ⟨r, 0, none⟩ ∧ r ≠ k ∧ v.ownBlock ≠ some k
theorem Apart.block {i : Nat} (h : Apart p v i) (hc : WCX w w' p v u) (hi : i < w.heap.size) : w'.heap[i]? = w.heap[i]? := by
  rcases hc with ⟨_, hb, _⟩ | ⟨r, hp, hc⟩
  · exact hb.block i hi
  · rcases h with h | ⟨r', h, h1, h2⟩
    · rw [hp] at h; cases h
    · rw [hp] at h; injection h with h; injection h with h; subst h
      exact hc.block i hi (Ne.symm h1) h2
theorem Apart.next {i : Nat} (h : Apart p v i) (hc : WCX w w' p v u) (hi : i < w.heap.size) : Apart p u i := by
  rcases h with h | ⟨r, h, h1, h2⟩
  · exact .inl h
  · rcases hc with ⟨hp, _⟩ | ⟨r', hp, hc⟩
    · rw [h] at hp; cases hp
    · refine .inr ⟨r, h, h1, fun e => ?_⟩
      rcases hc.new with hn | hn
      · exact h2 (hn.symm.trans e)
      · have := hn i e; omega
/-- a new block -/
theorem WX.apart (h : WX w p base v L) (i : Nat) (hi : w.heap.size ≤ i) : Apart p v i := by
  rcases h with h | ⟨r, h, hs, _⟩
  · exact .inl h
  · exact .inr ⟨r, h, by have := hs.lt; omega, fun e => by have := (World.ownsRow.lt hs.own i e).2; omega⟩
theorem SL.apart {b o : Nat} {xs : List ByteArray} (h : SL w b o xs) (ha : Apart p v b) (hc : WCX w w' p v u) : SL w' b o xs :=
  ⟨Nat.lt_of_lt_of_le h.1 hc.size, fun i hi => (World.cell?_of_block (w := w) (a := ⟨b, o + i, none⟩) (ha.block hc h.1)).trans (h.2 i hi)⟩
end

set_option maxRecDepth 20000 in
theorem xnumber (p : Option Addr) (base k : Nat) (v : Value) (L : List UInt8) (n : Nat) (hn : n < 18446744073709551616) (w : World) (h : WXR w p base v L (k + 10)) :
    Calls Try.prog 25 #[.pointer p, .int .u64 n] w (XPost w p base v L (num n) k) := by
  rcases h.1 with hp | ⟨r, hp, hs, hl, hb⟩
  · subst hp
    go_enter Try.func25, Try.ntmps25
    go_wp2
    go_end0
    exact ⟨rfl, v, ⟨.inl rfl, .inl rfl⟩, .inl ⟨rfl, g_refl, rfl⟩⟩
  · subst hp
    refine (wnumber_any r base v L n hn w hs (by omega) hb).mono fun e w' he => ?_
    obtain ⟨rfl, v', h1, h2⟩ := he
    have hk := h.2.resolve_left (fun e => by cases e)
    have hm : (num n).length ≤ 10 := by exact (num_len _).2
    exact ⟨rfl, v', ⟨.inr ⟨r, rfl, h1, by rw [List.length_append]; omega, Nat.le_trans hb h2.size⟩, .inr (by rw [List.length_append]; omega)⟩, .inr ⟨r, rfl, h2⟩⟩

set_option maxRecDepth 20000 in
theorem xint (p : Option Addr) (base k : Nat) (v : Value) (L : List UInt8) (n : Int) (m : Nat) (hm : IntKind.u64.wrap n = m) (hm2 : m < 18446744073709551616) (w : World) (h : WXR w p base v L (k + 10)) :
    Calls Try.prog 28 #[.pointer p, .int .i64 n] w (XPost w p base v L (num m) k) := by
  rcases h.1 with hp | ⟨r, hp, hs, hl, hb⟩
  · subst hp
    go_enter Try.func28, Try.ntmps28
    have hm0 := hm
    go_wp2_with fail
    try rw [hm]
    refine (xnumber none base 0 v L m hm2 w ⟨.inl rfl, .inl rfl⟩).mono ?_
    rintro e w1 ⟨rfl, v1, _, h1⟩
    have H1 := hid h1
    clear h1
    go_wp2
    go_end0
    exact ⟨rfl, v1, ⟨.inl rfl, .inl rfl⟩, H1.out⟩
  · subst hp
    refine (wint_any r base v L n m hm hm2 w hs (by omega) hb).mono fun e w' he => ?_
    obtain ⟨rfl, v', h1, h2⟩ := he
    have hk := h.2.resolve_left (fun e => by cases e)
    have hm : (num m).length ≤ 10 := by exact (num_len _).2
    exact ⟨rfl, v', ⟨.inr ⟨r, rfl, h1, by rw [List.length_append]; omega, Nat.le_trans hb h2.size⟩, .inr (by rw [List.length_append]; omega)⟩, .inr ⟨r, rfl, h2⟩⟩

set_option maxRecDepth 20000 in
theorem xsmall (p : Option Addr) (base k : Nat) (v : Value) (L : List UInt8) (m : Nat) (hm : m < 256) (w : World) (h : WXR w p base v L (k + 10)) :
    Calls Try.prog 32 #[.pointer p, .int .u8 m] w (XPost w p base v L (num m) k) := by
  rcases h.1 with hp | ⟨r, hp, hs, hl, hb⟩
  · subst hp
    go_enter Try.func32, Try.ntmps32
    have hm3 : (m : Int) < 256 := by omega
    go_wp2_with fail
    refine (xnumber none base 0 v L m (by omega) w ⟨.inl rfl, .inl rfl⟩).mono ?_
    rintro e w1 ⟨rfl, v1, _, h1⟩
    have H1 := hid h1
    clear h1
    go_wp2
    go_end0
    exact ⟨rfl, v1, ⟨.inl rfl, .inl rfl⟩, H1.out⟩
  · subst hp
    refine (wsmall_any r base v L m hm w hs (by omega) hb).mono fun e w' he => ?_
    obtain ⟨rfl, v', h1, h2⟩ := he
    have hk := h.2.resolve_left (fun e => by cases e)
    have hm : (num m).length ≤ 10 := by exact (num_len _).2
    exact ⟨rfl, v', ⟨.inr ⟨r, rfl, h1, by rw [List.length_append]; omega, Nat.le_trans hb h2.size⟩, .inr (by rw [List.length_append]; omega)⟩, .inr ⟨r, rfl, h2⟩⟩

set_option maxRecDepth 20000 in
theorem xbool (p : Option Addr) (base k : Nat) (v : Value) (L : List UInt8) (b : Bool) (w : World) (h : WXR w p base v L (k + 10)) :
    Calls Try.prog 29 #[.pointer p, .bool b] w (XPost w p base v L (num (bit b)) k) := by
  rcases h.1 with hp | ⟨r, hp, hs, hl, hb⟩
  · subst hp
    go_enter Try.func29, Try.ntmps29
    cases b
    · go_wp2_with fail
      refine (xnumber none base 0 v L 0 (by decide) w ⟨.inl rfl, .inl rfl⟩).mono ?_
      rintro e w1 ⟨rfl, v1, _, h1⟩
      have H1 := hid h1
      clear h1
      go_wp2
      go_end0
      exact ⟨rfl, v1, ⟨.inl rfl, .inl rfl⟩, H1.out⟩
    · go_wp2_with fail
      refine (xnumber none base 0 v L 1 (by decide) w ⟨.inl rfl, .inl rfl⟩).mono ?_
      rintro e w1 ⟨rfl, v1, _, h1⟩
      have H1 := hid h1
      clear h1
      go_wp2
      go_end0
      exact ⟨rfl, v1, ⟨.inl rfl, .inl rfl⟩, H1.out⟩
  · subst hp
    refine (wbool_any r base v L b w hs (by omega) hb).mono fun e w' he => ?_
    obtain ⟨rfl, v', h1, h2⟩ := he
    have hk := h.2.resolve_left (fun e => by cases e)
    have hm : (num (bit b)).length ≤ 10 := by exact (num_len _).2
    exact ⟨rfl, v', ⟨.inr ⟨r, rfl, h1, by rw [List.length_append]; omega, Nat.le_trans hb h2.size⟩, .inr (by rw [List.length_append]; omega)⟩, .inr ⟨r, rfl, h2⟩⟩

set_option maxRecDepth 20000 in
theorem xtext (p : Option Addr) (base k : Nat) (v : Value) (L : List UInt8) (s : ByteArray) (w : World) (h : WXR w p base v L (k + 1010)) (hs2 : Sm p s) :
    Calls Try.prog 23 #[.pointer p, .string s] w (XPost w p base v L (tform s) k) := by
  rcases h.1 with hp | ⟨r, hp, hs, hl, hb⟩
  · subst hp
    go_enter Try.func23, Try.ntmps23
    go_wp2
    go_end0
    exact ⟨rfl, v, ⟨.inl rfl, .inl rfl⟩, .inl ⟨rfl, g_refl, rfl⟩⟩
  · subst hp
    refine (wtext_any r base v L s (by rcases hs2 with h | h; cases h; omega) w hs (by omega) hb).mono fun e w' he => ?_
    obtain ⟨rfl, v', h1, h2⟩ := he
    have hk := h.2.resolve_left (fun e => by cases e)
    have hm : (tform s).length ≤ 1010 := by have h1 := (tform_len s).2; rcases hs2 with h | h; cases h; omega
    exact ⟨rfl, v', ⟨.inr ⟨r, rfl, h1, by rw [List.length_append]; omega, Nat.le_trans hb h2.size⟩, .inr (by rw [List.length_append]; omega)⟩, .inr ⟨r, rfl, h2⟩⟩

set_option maxRecDepth 20000 in
set_option maxHeartbeats 1000000 in
theorem xeach (p : Option Addr) (base k b : Nat) (v : Value) (L : List UInt8) (x y : ByteArray) (w : World) (h : WXR w p base v L (k + 2020)) (hx : Sm p x) (hy : Sm p y) (hb : SL w b 0 [x, y]) (ha : Apart p v b) :
    Calls Try.prog 69 #[.func (.func 23) #[.pointer p] #[], .slice (some ⟨b, 0, none⟩) 2 2] w (XPost w p base v L (tforms [x, y]) k) := by
  have H := hid (And.intro h (And.intro hx (And.intro hy (And.intro hb ha))))
  clear h hx hy hb ha
  go_enter Try.func69, Try.ntmps69
  go_wp2
  go_loopg [8] 2 (fun n z wr => ∃ (i : Nat) (u : Value), n = 2 - i ∧ i ≤ 2 ∧ z = .int .i64 i ∧ WXR wr p base u (L ++ tforms ([x, y].take i)) (k + (2 - i) * 1010) ∧ WCX w wr p v u ∧ SL wr b 0 [x, y] ∧ Apart p u b)
  case atStart => exact ⟨0, v, rfl, by omega, rfl, by rw [show tforms ([x, y].take 0) = [] from rfl, List.append_nil]; exact H.out.1, WCX.below g_refl H.out.1.1.shape, H.out.2.2.2.1, H.out.2.2.2.2⟩
  case round =>
    obtain ⟨i, u, hk, hi, rfl, hW, hC, hS, hA⟩ := hrel
    have HK := hid hk
    have HW := hid (And.intro hW (And.intro hC (And.intro hS hA)))
    clear hk hW hC hS hA
    rcases (show i = 0 ∨ i = 1 ∨ i = 2 by omega) with rfl | rfl | rfl <;> clear hi
    · have c0 : wr.cell? ⟨b, 0, none⟩ = some (.string x) := HW.out.2.2.1.2 0 (by simp)
      go_wp2_with fail
      refine (xtext p base (k + 1010) u _ x wr HW.out.1 H.out.2.1).mono ?_
      rintro e w1 ⟨rfl, v1, h1, h2⟩
      have HX := hid (And.intro h1 h2)
      clear h1 h2 c0
      go_wp2
      go_roundg (2 - (0 + 1))
      case measure => have := HK.out; omega
      case rel => exact ⟨0 + 1, v1, rfl, by omega, by go_num, by have := HX.out.1; simpa [tforms, List.append_assoc] using this, HW.out.2.1.trans HX.out.2, HW.out.2.2.1.apart HW.out.2.2.2 HX.out.2, HW.out.2.2.2.next HX.out.2 HW.out.2.2.1.1⟩
    · have c0 : wr.cell? ⟨b, 1, none⟩ = some (.string y) := HW.out.2.2.1.2 1 (by simp)
      go_wp2_with fail
      refine (xtext p base k u _ y wr (by simpa using HW.out.1) H.out.2.2.1).mono ?_
      rintro e w1 ⟨rfl, v1, h1, h2⟩
      have HX := hid (And.intro h1 h2)
      clear h1 h2 c0
      go_wp2
      go_roundg (2 - (1 + 1))
      case measure => have := HK.out; omega
      case rel => exact ⟨1 + 1, v1, rfl, by omega, by go_num, by have := HX.out.1; simpa [tforms, List.append_assoc] using this, HW.out.2.1.trans HX.out.2, HW.out.2.2.1.apart HW.out.2.2.2 HX.out.2, HW.out.2.2.2.next HX.out.2 HW.out.2.2.1.1⟩
    · go_wp2
      go_end0
      exact ⟨rfl, u, by simpa using HW.out.1, HW.out.2.1⟩

set_option maxRecDepth 20000 in
theorem xobject (p : Option Addr) (base k : Nat) (v : Value) (L : List UInt8) (x y : ByteArray) (w : World) (h : WXR w p base v L (k + 2020)) (hx : Sm p x) (hy : Sm p y) :
    Calls Try.prog 33 #[.pointer p, .agg #[.string x, .string y]] w (XPost w p base v L (tforms [x, y]) k) := by
  have H := hid (And.intro h (And.intro hx hy))
  clear h hx hy
  have hB : Below w.heap.size w ((w.alloc (.cells #[.string x, .string y] 63)).alloc (.cells #[.string x, .string y] 9)) := g_alloc (g_alloc g_refl _) _
  have HB := hid hB
  clear hB
  go_enter Try.func33, Try.ntmps33
  go_wp2_with fail
  refine (xeach p base k (w.heap.size + 1) v L x y _ (H.out.1.below HB.out) H.out.2.1 H.out.2.2 ⟨by simp, fun i hi => by
    match i, hi with
    | 0, _ => go_simp
    | 1, _ => go_simp⟩ (H.out.1.1.apart _ (by omega))).mono ?_
  rintro e w1 ⟨rfl, v1, h1, h2⟩
  have H1 := hid h1
  have H2 := hid h2
  clear h1 h2
  go_wp2
  go_end0
  exact ⟨rfl, v1, H1.out, (WCX.below HB.out H.out.1.1.shape).trans H2.out⟩

set_option maxRecDepth 20000 in
set_option maxHeartbeats 1000000 in
theorem xgoal (p : Option Addr) (base k : Nat) (v : Value) (L : List UInt8) (a b c : ByteArray) (w : World) (h : WXR w p base v L (k + 3030)) (ha : Sm p a) (hb : Sm p b) (hc : Sm p c) :
    Calls Try.prog 34 #[.pointer p, .agg #[.string a, .string b, .string c]] w (XPost w p base v L (tforms [a, b, c]) k) := by
  have H := hid h
  have hq := h.1.apart w.heap.size (Nat.le_refl _)
  have HQ := hid hq
  have hB : Below w.heap.size w (w.alloc (.cells #[.string a, .string b, .string c] 72)) := g_alloc g_refl _
  have HB := hid hB
  have d0_0 : (w.alloc (.cells #[.string a, .string b, .string c] 72)).cell? ⟨w.heap.size, 0, none⟩ = some (.string a) := by go_simp
  have d0_1 : (w.alloc (.cells #[.string a, .string b, .string c] 72)).cell? ⟨w.heap.size, 1, none⟩ = some (.string b) := by go_simp
  have d0_2 : (w.alloc (.cells #[.string a, .string b, .string c] 72)).cell? ⟨w.heap.size, 2, none⟩ = some (.string c) := by go_simp
  have hsz : w.heap.size < (w.alloc (.cells #[.string a, .string b, .string c] 72)).heap.size := by simp
  have HZ := hid hsz
  clear h hq hB hsz d0_0 d0_1 d0_2
  go_enter Try.func34, Try.ntmps34
  go_wp2_with fail
  refine (xobject p base (k + 1010) v _ a b _ (H.out.below HB.out) ha hb).mono ?_
  rintro e w1 ⟨rfl, v1, h1, h2⟩
  have d0 : w1.cell? ⟨w.heap.size, 0, none⟩ = some (.string a) := (World.cell?_of_block (a := ⟨w.heap.size, 0, none⟩) (HQ.out.block h2 HZ.out)).trans (by go_simp)
  have d1 : w1.cell? ⟨w.heap.size, 1, none⟩ = some (.string b) := (World.cell?_of_block (a := ⟨w.heap.size, 1, none⟩) (HQ.out.block h2 HZ.out)).trans (by go_simp)
  have d2 : w1.cell? ⟨w.heap.size, 2, none⟩ = some (.string c) := (World.cell?_of_block (a := ⟨w.heap.size, 2, none⟩) (HQ.out.block h2 HZ.out)).trans (by go_simp)
  have e1_0 := d0
  have e1_1 := d1
  have e1_2 := d2
  have HW1 := hid h1
  have HC1 := hid h2
  have HA1 := hid (HQ.out.next h2 HZ.out)
  have HL1 := hid (Nat.lt_of_lt_of_le HZ.out h2.size)
  clear h1 h2
  go_wp2_with fail
  refine (xtext p base (k + 0) v1 _ c _ (HW1.out) hc).mono ?_
  rintro e w2 ⟨rfl, v2, h1, h2⟩
  have HW2 := hid h1
  have HC2 := hid h2
  clear h1 h2
  go_wp2
  go_end0
  exact ⟨rfl, v2, by have := HW2.out; simpa [tforms, List.append_assoc] using this, (((WCX.below HB.out H.out.1.shape).trans HC1.out).trans HC2.out)⟩

set_option maxRecDepth 20000 in
theorem xsubject (p : Option Addr) (base k : Nat) (v : Value) (L : List UInt8) (a b c : ByteArray) (w : World) (h : WXR w p base v L (k + 3030)) (ha : Sm p a) (hb : Sm p b) (hc : Sm p c) :
    Calls Try.prog 35 #[.pointer p, .agg #[.string a, .string b, .string c]] w (XPost w p base v L (tforms [a, b, c]) k) := by
  have H := hid h
  clear h
  go_enter Try.func35, Try.ntmps35
  go_wp2_with fail
  have HB := hid (g_alloc g_refl (.cells #[.string a, .string b, .string c] 73) : Below w.heap.size w _)
  refine (xgoal p base k v L a b c _ (H.out.below HB.out) ha hb hc).mono ?_
  rintro e w1 ⟨rfl, v1, h1, h2⟩
  have H1 := hid h1
  have H2 := hid h2
  clear h1 h2
  go_wp2
  go_end0
  exact ⟨rfl, v1, H1.out, (WCX.below HB.out H.out.1.shape).trans H2.out⟩

set_option maxRecDepth 20000 in
set_option maxHeartbeats 1000000 in
theorem xtuple (p : Option Addr) (base k : Nat) (v : Value) (L : List UInt8) (a b c d e f : ByteArray) (w : World) (h : WXR w p base v L (k + 6060)) (ha : Sm p a) (hb : Sm p b) (hc : Sm p c) (hd : Sm p d) (he : Sm p e) (hf : Sm p f) :
    Calls Try.prog 36 #[.pointer p, .agg #[.string a, .string b, .string c, .string d, .string e, .string f]] w (XPost w p base v L (tforms [a, b, c, d, e, f]) k) := by
  have H := hid h
  have hq := h.1.apart w.heap.size (Nat.le_refl _)
  have HQ := hid hq
  have hB : Below w.heap.size w (w.alloc (.cells #[.string a, .string b, .string c, .string d, .string e, .string f] 75)) := g_alloc g_refl _
  have HB := hid hB
  have d0_0 : (w.alloc (.cells #[.string a, .string b, .string c, .string d, .string e, .string f] 75)).cell? ⟨w.heap.size, 0, none⟩ = some (.string a) := by go_simp
  have d0_1 : (w.alloc (.cells #[.string a, .string b, .string c, .string d, .string e, .string f] 75)).cell? ⟨w.heap.size, 1, none⟩ = some (.string b) := by go_simp
  have d0_2 : (w.alloc (.cells #[.string a, .string b, .string c, .string d, .string e, .string f] 75)).cell? ⟨w.heap.size, 2, none⟩ = some (.string c) := by go_simp
  have d0_3 : (w.alloc (.cells #[.string a, .string b, .string c, .string d, .string e, .string f] 75)).cell? ⟨w.heap.size, 3, none⟩ = some (.string d) := by go_simp
  have d0_4 : (w.alloc (.cells #[.string a, .string b, .string c, .string d, .string e, .string f] 75)).cell? ⟨w.heap.size, 4, none⟩ = some (.string e) := by go_simp
  have d0_5 : (w.alloc (.cells #[.string a, .string b, .string c, .string d, .string e, .string f] 75)).cell? ⟨w.heap.size, 5, none⟩ = some (.string f) := by go_simp
  have hsz : w.heap.size < (w.alloc (.cells #[.string a, .string b, .string c, .string d, .string e, .string f] 75)).heap.size := by simp
  have HZ := hid hsz
  clear h hq hB hsz d0_0 d0_1 d0_2 d0_3 d0_4 d0_5
  go_enter Try.func36, Try.ntmps36
  go_wp2_with fail
  refine (xgoal p base (k + 3030) v _ a b c _ (H.out.below HB.out) ha hb hc).mono ?_
  rintro e w1 ⟨rfl, v1, h1, h2⟩
  have d0 : w1.cell? ⟨w.heap.size, 0, none⟩ = some (.string a) := (World.cell?_of_block (a := ⟨w.heap.size, 0, none⟩) (HQ.out.block h2 HZ.out)).trans (by go_simp)
  have d1 : w1.cell? ⟨w.heap.size, 1, none⟩ = some (.string b) := (World.cell?_of_block (a := ⟨w.heap.size, 1, none⟩) (HQ.out.block h2 HZ.out)).trans (by go_simp)
  have d2 : w1.cell? ⟨w.heap.size, 2, none⟩ = some (.string c) := (World.cell?_of_block (a := ⟨w.heap.size, 2, none⟩) (HQ.out.block h2 HZ.out)).trans (by go_simp)
  have d3 : w1.cell? ⟨w.heap.size, 3, none⟩ = some (.string d) := (World.cell?_of_block (a := ⟨w.heap.size, 3, none⟩) (HQ.out.block h2 HZ.out)).trans (by go_simp)
  have d4 : w1.cell? ⟨w.heap.size, 4, none⟩ = some (.string e) := (World.cell?_of_block (a := ⟨w.heap.size, 4, none⟩) (HQ.out.block h2 HZ.out)).trans (by go_simp)
  have d5 : w1.cell? ⟨w.heap.size, 5, none⟩ = some (.string f) := (World.cell?_of_block (a := ⟨w.heap.size, 5, none⟩) (HQ.out.block h2 HZ.out)).trans (by go_simp)
  have e1_0 := d0
  have e1_1 := d1
  have e1_2 := d2
  have e1_3 := d3
  have e1_4 := d4
  have e1_5 := d5
  have HW1 := hid h1
  have HC1 := hid h2
  have HA1 := hid (HQ.out.next h2 HZ.out)
  have HL1 := hid (Nat.lt_of_lt_of_le HZ.out h2.size)
  clear h1 h2
  go_wp2_with fail
  refine (xsubject p base (k + 0) v1 _ d e f _ (HW1.out) hd he hf).mono ?_
  rintro e w2 ⟨rfl, v2, h1, h2⟩
  have HW2 := hid h1
  have HC2 := hid h2
  clear h1 h2
  go_wp2
  go_end0
  exact ⟨rfl, v2, by have := HW2.out; simpa [tforms, List.append_assoc] using this, (((WCX.below HB.out H.out.1.shape).trans HC1.out).trans HC2.out)⟩

set_option maxRecDepth 20000 in
set_option maxHeartbeats 1000000 in
theorem xchange (p : Option Addr) (base k : Nat) (v : Value) (L : List UInt8) (a b c d e f : ByteArray) (z : Bool) (w : World) (h : WXR w p base v L (k + 6070)) (ha : Sm p a) (hb : Sm p b) (hc : Sm p c) (hd : Sm p d) (he : Sm p e) (hf : Sm p f) :
    Calls Try.prog 37 #[.pointer p, .agg #[.string a, .string b, .string c, .string d, .string e, .string f, .bool z]] w (XPost w p base v L (tforms [a, b, c, d, e, f] ++ num (bit z)) k) := by
  have H := hid h
  have hq := h.1.apart w.heap.size (Nat.le_refl _)
  have HQ := hid hq
  have hB : Below w.heap.size w (w.alloc (.cells #[.string a, .string b, .string c, .string d, .string e, .string f, .bool z] 84)) := g_alloc g_refl _
  have HB := hid hB
  have d0_0 : (w.alloc (.cells #[.string a, .string b, .string c, .string d, .string e, .string f, .bool z] 84)).cell? ⟨w.heap.size, 0, none⟩ = some (.string a) := by go_simp
  have d0_1 : (w.alloc (.cells #[.string a, .string b, .string c, .string d, .string e, .string f, .bool z] 84)).cell? ⟨w.heap.size, 1, none⟩ = some (.string b) := by go_simp
  have d0_2 : (w.alloc (.cells #[.string a, .string b, .string c, .string d, .string e, .string f, .bool z] 84)).cell? ⟨w.heap.size, 2, none⟩ = some (.string c) := by go_simp
  have d0_3 : (w.alloc (.cells #[.string a, .string b, .string c, .string d, .string e, .string f, .bool z] 84)).cell? ⟨w.heap.size, 3, none⟩ = some (.string d) := by go_simp
  have d0_4 : (w.alloc (.cells #[.string a, .string b, .string c, .string d, .string e, .string f, .bool z] 84)).cell? ⟨w.heap.size, 4, none⟩ = some (.string e) := by go_simp
  have d0_5 : (w.alloc (.cells #[.string a, .string b, .string c, .string d, .string e, .string f, .bool z] 84)).cell? ⟨w.heap.size, 5, none⟩ = some (.string f) := by go_simp
  have d0_6 : (w.alloc (.cells #[.string a, .string b, .string c, .string d, .string e, .string f, .bool z] 84)).cell? ⟨w.heap.size, 6, none⟩ = some (.bool z) := by go_simp
  have hsz : w.heap.size < (w.alloc (.cells #[.string a, .string b, .string c, .string d, .string e, .string f, .bool z] 84)).heap.size := by simp
  have HZ := hid hsz
  clear h hq hB hsz d0_0 d0_1 d0_2 d0_3 d0_4 d0_5 d0_6
  go_enter Try.func37, Try.ntmps37
  go_wp2_with fail
  refine (xtuple p base (k + 10) v _ a b c d e f _ (H.out.below HB.out) ha hb hc hd he hf).mono ?_
  rintro e w1 ⟨rfl, v1, h1, h2⟩
  have d0 : w1.cell? ⟨w.heap.size, 0, none⟩ = some (.string a) := (World.cell?_of_block (a := ⟨w.heap.size, 0, none⟩) (HQ.out.block h2 HZ.out)).trans (by go_simp)
  have d1 : w1.cell? ⟨w.heap.size, 1, none⟩ = some (.string b) := (World.cell?_of_block (a := ⟨w.heap.size, 1, none⟩) (HQ.out.block h2 HZ.out)).trans (by go_simp)
  have d2 : w1.cell? ⟨w.heap.size, 2, none⟩ = some (.string c) := (World.cell?_of_block (a := ⟨w.heap.size, 2, none⟩) (HQ.out.block h2 HZ.out)).trans (by go_simp)
  have d3 : w1.cell? ⟨w.heap.size, 3, none⟩ = some (.string d) := (World.cell?_of_block (a := ⟨w.heap.size, 3, none⟩) (HQ.out.block h2 HZ.out)).trans (by go_simp)
  have d4 : w1.cell? ⟨w.heap.size, 4, none⟩ = some (.string e) := (World.cell?_of_block (a := ⟨w.heap.size, 4, none⟩) (HQ.out.block h2 HZ.out)).trans (by go_simp)
  have d5 : w1.cell? ⟨w.heap.size, 5, none⟩ = some (.string f) := (World.cell?_of_block (a := ⟨w.heap.size, 5, none⟩) (HQ.out.block h2 HZ.out)).trans (by go_simp)
  have d6 : w1.cell? ⟨w.heap.size, 6, none⟩ = some (.bool z) := (World.cell?_of_block (a := ⟨w.heap.size, 6, none⟩) (HQ.out.block h2 HZ.out)).trans (by go_simp)
  have e1_0 := d0
  have e1_1 := d1
  have e1_2 := d2
  have e1_3 := d3
  have e1_4 := d4
  have e1_5 := d5
  have e1_6 := d6
  have HW1 := hid h1
  have HC1 := hid h2
  have HA1 := hid (HQ.out.next h2 HZ.out)
  have HL1 := hid (Nat.lt_of_lt_of_le HZ.out h2.size)
  clear h1 h2
  go_wp2_with fail
  refine (xbool p base (k + 0) v1 _ z _ (HW1.out) ).mono ?_
  rintro e w2 ⟨rfl, v2, h1, h2⟩
  have HW2 := hid h1
  have HC2 := hid h2
  clear h1 h2
  go_wp2
  go_end0
  exact ⟨rfl, v2, by have := HW2.out; simpa [tforms, List.append_assoc] using this, (((WCX.below HB.out H.out.1.shape).trans HC1.out).trans HC2.out)⟩

set_option maxRecDepth 20000 in
set_option maxHeartbeats 1000000 in
theorem xmust (p : Option Addr) (base k : Nat) (v : Value) (L : List UInt8) (a b c d e f : ByteArray) (z : Bool) (w : World) (h : WXR w p base v L (k + 6070)) (ha : Sm p a) (hb : Sm p b) (hc : Sm p c) (hd : Sm p d) (he : Sm p e) (hf : Sm p f) :
    Calls Try.prog 38 #[.pointer p, .agg #[.string a, .string b, .string c, .string d, .string e, .string f, .bool z]] w (XPost w p base v L (tforms [a, b, c, d, e, f] ++ num (bit z)) k) := by
  have H := hid h
  have hq := h.1.apart w.heap.size (Nat.le_refl _)
  have HQ := hid hq
  have hB : Below w.heap.size w (w.alloc (.cells #[.string a, .string b, .string c, .string d, .string e, .string f, .bool z] 87)) := g_alloc g_refl _
  have HB := hid hB
  have d0_0 : (w.alloc (.cells #[.string a, .string b, .string c, .string d, .string e, .string f, .bool z] 87)).cell? ⟨w.heap.size, 0, none⟩ = some (.string a) := by go_simp
  have d0_1 : (w.alloc (.cells #[.string a, .string b, .string c, .string d, .string e, .string f, .bool z] 87)).cell? ⟨w.heap.size, 1, none⟩ = some (.string b) := by go_simp
  have d0_2 : (w.alloc (.cells #[.string a, .string b, .string c, .string d, .string e, .string f, .bool z] 87)).cell? ⟨w.heap.size, 2, none⟩ = some (.string c) := by go_simp
  have d0_3 : (w.alloc (.cells #[.string a, .string b, .string c, .string d, .string e, .string f, .bool z] 87)).cell? ⟨w.heap.size, 3, none⟩ = some (.string d) := by go_simp
  have d0_4 : (w.alloc (.cells #[.string a, .string b, .string c, .string d, .string e, .string f, .bool z] 87)).cell? ⟨w.heap.size, 4, none⟩ = some (.string e) := by go_simp
  have d0_5 : (w.alloc (.cells #[.string a, .string b, .string c, .string d, .string e, .string f, .bool z] 87)).cell? ⟨w.heap.size, 5, none⟩ = some (.string f) := by go_simp
  have d0_6 : (w.alloc (.cells #[.string a, .string b, .string c, .string d, .string e, .string f, .bool z] 87)).cell? ⟨w.heap.size, 6, none⟩ = some (.bool z) := by go_simp
  have hsz : w.heap.size < (w.alloc (.cells #[.string a, .string b, .string c, .string d, .string e, .string f, .bool z] 87)).heap.size := by simp
  have HZ := hid hsz
  clear h hq hB hsz d0_0 d0_1 d0_2 d0_3 d0_4 d0_5 d0_6
  go_enter Try.func38, Try.ntmps38
  go_wp2_with fail
  refine (xtuple p base (k + 10) v _ a b c d e f _ (H.out.below HB.out) ha hb hc hd he hf).mono ?_
  rintro e w1 ⟨rfl, v1, h1, h2⟩
  have d0 : w1.cell? ⟨w.heap.size, 0, none⟩ = some (.string a) := (World.cell?_of_block (a := ⟨w.heap.size, 0, none⟩) (HQ.out.block h2 HZ.out)).trans (by go_simp)
  have d1 : w1.cell? ⟨w.heap.size, 1, none⟩ = some (.string b) := (World.cell?_of_block (a := ⟨w.heap.size, 1, none⟩) (HQ.out.block h2 HZ.out)).trans (by go_simp)
  have d2 : w1.cell? ⟨w.heap.size, 2, none⟩ = some (.string c) := (World.cell?_of_block (a := ⟨w.heap.size, 2, none⟩) (HQ.out.block h2 HZ.out)).trans (by go_simp)
  have d3 : w1.cell? ⟨w.heap.size, 3, none⟩ = some (.string d) := (World.cell?_of_block (a := ⟨w.heap.size, 3, none⟩) (HQ.out.block h2 HZ.out)).trans (by go_simp)
  have d4 : w1.cell? ⟨w.heap.size, 4, none⟩ = some (.string e) := (World.cell?_of_block (a := ⟨w.heap.size, 4, none⟩) (HQ.out.block h2 HZ.out)).trans (by go_simp)
  have d5 : w1.cell? ⟨w.heap.size, 5, none⟩ = some (.string f) := (World.cell?_of_block (a := ⟨w.heap.size, 5, none⟩) (HQ.out.block h2 HZ.out)).trans (by go_simp)
  have d6 : w1.cell? ⟨w.heap.size, 6, none⟩ = some (.bool z) := (World.cell?_of_block (a := ⟨w.heap.size, 6, none⟩) (HQ.out.block h2 HZ.out)).trans (by go_simp)
  have e1_0 := d0
  have e1_1 := d1
  have e1_2 := d2
  have e1_3 := d3
  have e1_4 := d4
  have e1_5 := d5
  have e1_6 := d6
  have HW1 := hid h1
  have HC1 := hid h2
  have HA1 := hid (HQ.out.next h2 HZ.out)
  have HL1 := hid (Nat.lt_of_lt_of_le HZ.out h2.size)
  clear h1 h2
  go_wp2_with fail
  refine (xbool p base (k + 0) v1 _ z _ (HW1.out) ).mono ?_
  rintro e w2 ⟨rfl, v2, h1, h2⟩
  have HW2 := hid h1
  have HC2 := hid h2
  clear h1 h2
  go_wp2
  go_end0
  exact ⟨rfl, v2, by have := HW2.out; simpa [tforms, List.append_assoc] using this, (((WCX.below HB.out H.out.1.shape).trans HC1.out).trans HC2.out)⟩

set_option maxRecDepth 20000 in
set_option maxHeartbeats 1000000 in
theorem xquery (p : Option Addr) (base k : Nat) (v : Value) (L : List UInt8) (z : Nat) (hz : z < 256) (a b c d e : ByteArray) (w : World) (h : WXR w p base v L (k + 5060)) (ha : Sm p a) (hb : Sm p b) (hc : Sm p c) (hd : Sm p d) (he : Sm p e) :
    Calls Try.prog 39 #[.pointer p, .agg #[.int .u8 (z : Int), .string a, .string b, .string c, .string d, .string e]] w (XPost w p base v L (num z ++ tforms [a, b, c, d, e]) k) := by
  have H := hid h
  have hq := h.1.apart w.heap.size (Nat.le_refl _)
  have HQ := hid hq
  have hB : Below w.heap.size w (w.alloc (.cells #[.int .u8 (z : Int), .string a, .string b, .string c, .string d, .string e] 90)) := g_alloc g_refl _
  have HB := hid hB
  have d0_0 : (w.alloc (.cells #[.int .u8 (z : Int), .string a, .string b, .string c, .string d, .string e] 90)).cell? ⟨w.heap.size, 0, none⟩ = some (.int .u8 (z : Int)) := by go_simp
  have d0_1 : (w.alloc (.cells #[.int .u8 (z : Int), .string a, .string b, .string c, .string d, .string e] 90)).cell? ⟨w.heap.size, 1, none⟩ = some (.string a) := by go_simp
  have d0_2 : (w.alloc (.cells #[.int .u8 (z : Int), .string a, .string b, .string c, .string d, .string e] 90)).cell? ⟨w.heap.size, 2, none⟩ = some (.string b) := by go_simp
  have d0_3 : (w.alloc (.cells #[.int .u8 (z : Int), .string a, .string b, .string c, .string d, .string e] 90)).cell? ⟨w.heap.size, 3, none⟩ = some (.string c) := by go_simp
  have d0_4 : (w.alloc (.cells #[.int .u8 (z : Int), .string a, .string b, .string c, .string d, .string e] 90)).cell? ⟨w.heap.size, 4, none⟩ = some (.string d) := by go_simp
  have d0_5 : (w.alloc (.cells #[.int .u8 (z : Int), .string a, .string b, .string c, .string d, .string e] 90)).cell? ⟨w.heap.size, 5, none⟩ = some (.string e) := by go_simp
  have hsz : w.heap.size < (w.alloc (.cells #[.int .u8 (z : Int), .string a, .string b, .string c, .string d, .string e] 90)).heap.size := by simp
  have HZ := hid hsz
  clear h hq hB hsz d0_0 d0_1 d0_2 d0_3 d0_4 d0_5
  go_enter Try.func39, Try.ntmps39
  go_wp2_with fail
  refine (xsmall p base (k + 5050) v _ z hz _ (H.out.below HB.out) ).mono ?_
  rintro e w1 ⟨rfl, v1, h1, h2⟩
  have d0 : w1.cell? ⟨w.heap.size, 0, none⟩ = some (.int .u8 (z : Int)) := (World.cell?_of_block (a := ⟨w.heap.size, 0, none⟩) (HQ.out.block h2 HZ.out)).trans (by go_simp)
  have d1 : w1.cell? ⟨w.heap.size, 1, none⟩ = some (.string a) := (World.cell?_of_block (a := ⟨w.heap.size, 1, none⟩) (HQ.out.block h2 HZ.out)).trans (by go_simp)
  have d2 : w1.cell? ⟨w.heap.size, 2, none⟩ = some (.string b) := (World.cell?_of_block (a := ⟨w.heap.size, 2, none⟩) (HQ.out.block h2 HZ.out)).trans (by go_simp)
  have d3 : w1.cell? ⟨w.heap.size, 3, none⟩ = some (.string c) := (World.cell?_of_block (a := ⟨w.heap.size, 3, none⟩) (HQ.out.block h2 HZ.out)).trans (by go_simp)
  have d4 : w1.cell? ⟨w.heap.size, 4, none⟩ = some (.string d) := (World.cell?_of_block (a := ⟨w.heap.size, 4, none⟩) (HQ.out.block h2 HZ.out)).trans (by go_simp)
  have d5 : w1.cell? ⟨w.heap.size, 5, none⟩ = some (.string e) := (World.cell?_of_block (a := ⟨w.heap.size, 5, none⟩) (HQ.out.block h2 HZ.out)).trans (by go_simp)
  have e1_0 := d0
  have e1_1 := d1
  have e1_2 := d2
  have e1_3 := d3
  have e1_4 := d4
  have e1_5 := d5
  have HW1 := hid h1
  have HC1 := hid h2
  have HA1 := hid (HQ.out.next h2 HZ.out)
  have HL1 := hid (Nat.lt_of_lt_of_le HZ.out h2.size)
  clear h1 h2
  go_wp2_with fail
  refine (xgoal p base (k + 2020) v1 _ a b c _ (HW1.out) ha hb hc).mono ?_
  rintro e w2 ⟨rfl, v2, h1, h2⟩
  have d0 : w2.cell? ⟨w.heap.size, 0, none⟩ = some (.int .u8 (z : Int)) := (World.cell?_of_block (a := ⟨w.heap.size, 0, none⟩) (HA1.out.block h2 HL1.out)).trans e1_0
  have d1 : w2.cell? ⟨w.heap.size, 1, none⟩ = some (.string a) := (World.cell?_of_block (a := ⟨w.heap.size, 1, none⟩) (HA1.out.block h2 HL1.out)).trans e1_1
  have d2 : w2.cell? ⟨w.heap.size, 2, none⟩ = some (.string b) := (World.cell?_of_block (a := ⟨w.heap.size, 2, none⟩) (HA1.out.block h2 HL1.out)).trans e1_2
  have d3 : w2.cell? ⟨w.heap.size, 3, none⟩ = some (.string c) := (World.cell?_of_block (a := ⟨w.heap.size, 3, none⟩) (HA1.out.block h2 HL1.out)).trans e1_3
  have d4 : w2.cell? ⟨w.heap.size, 4, none⟩ = some (.string d) := (World.cell?_of_block (a := ⟨w.heap.size, 4, none⟩) (HA1.out.block h2 HL1.out)).trans e1_4
  have d5 : w2.cell? ⟨w.heap.size, 5, none⟩ = some (.string e) := (World.cell?_of_block (a := ⟨w.heap.size, 5, none⟩) (HA1.out.block h2 HL1.out)).trans e1_5
  have e2_0 := d0
  have e2_1 := d1
  have e2_2 := d2
  have e2_3 := d3
  have e2_4 := d4
  have e2_5 := d5
  have HW2 := hid h1
  have HC2 := hid h2
  have HA2 := hid (HA1.out.next h2 HL1.out)
  have HL2 := hid (Nat.lt_of_lt_of_le HL1.out h2.size)
  clear h1 h2
  go_wp2_with fail
  refine (xobject p base (k + 0) v2 _ d e _ (HW2.out) hd he).mono ?_
  rintro e w3 ⟨rfl, v3, h1, h2⟩
  have HW3 := hid h1
  have HC3 := hid h2
  clear h1 h2
  go_wp2
  go_end0
  exact ⟨rfl, v3, by have := HW3.out; simpa [tforms, List.append_assoc] using this, ((((WCX.below HB.out H.out.1.shape).trans HC1.out).trans HC2.out).trans HC3.out)⟩
end Go.Proofs.Ytohnhjmiblgkkaa
