/-
  THE CONTRACTS of codecs.copied, Of, At, Fault, End.
-/
import Derived.Test.YtohnhjmiblgkkaaCText
import Derived.Deep.AppendSrc
namespace Go.Proofs.Ytohnhjmiblgkkaa
open Go.RowKit

/-- the bytes as cells -/
def bc (L : List UInt8) : List Value := L.map fun b => Value.int .u8 (b.toNat : Int)
theorem bc_len (L : List UInt8) : (bc L).length = L.length := List.length_map _
theorem bc_one (L : List UInt8) : ∀ u ∈ bc L, u.oneCell' = true := fun u hu => by
  obtain ⟨_, _, rfl⟩ := List.mem_map.1 hu
  rfl
theorem bc_get {L : List UInt8} {j : Nat} {u : Value} (h : (bc L)[j]? = some u) : ∃ hj : j < L.length, u = .int .u8 L[j].toNat := by
  have hj : j < L.length := by have := (List.getElem?_eq_some_iff.1 h).1; rwa [bc_len] at this
  refine ⟨hj, ?_⟩
  simp [bc, List.getElem?_map, List.getElem?_eq_getElem hj] at h
  exact h.symm
/-- the slice value with address A, wherever it begins, reads as L -/
def ByO (w : World) (A : Option Addr) (L : List UInt8) : Prop := L ≠ [] → ∃ g o, A = some ⟨g, o, none⟩ ∧ g < w.heap.size ∧ ∀ i (h : i < L.length), w.cell? ⟨g, o + i, none⟩ = some (.int .u8 L[i].toNat)
theorem Byt.toO {w : World} {A : Option Addr} {L : List UInt8} (h : Byt w A L) : ByO w A L := fun hn => by
  obtain ⟨g, e, hd⟩ := h hn
  exact ⟨g, 0, e, hd.1.1, fun i hi => by rw [Nat.zero_add]; exact hd.2 i hi⟩
theorem ByO.below {w w' : World} {A : Option Addr} {L : List UInt8} (h : ByO w A L) (hb : Below w.heap.size w w') : ByO w' A L := fun hn => by
  obtain ⟨g, o, e, hg, hd⟩ := h hn
  exact ⟨g, o, e, Nat.lt_of_lt_of_le hg hb.size, fun i hi => (hb.cell (p := ⟨g, o + i, none⟩) hg).trans (hd i hi)⟩
/-- an own row of bytes reads as them -/
theorem own_byt {w : World} {base : Nat} {A : Option Addr} {c : Nat} {L : List UInt8} (h : w.ownsRow base 5 1 (.slice A L.length c) L.length (bc L)) : Byt w A L := fun hn => by
  have hpos : 0 < L.length := List.length_pos_iff.2 hn
  obtain ⟨g, cap, e, _, hlt⟩ := h.form hpos
  injection e with e1 _ _
  subst e1
  refine ⟨g, rfl, ⟨hlt, fun i => ?_⟩, fun i hi => ?_⟩
  · rcases h.2 with ⟨h0, _⟩ | ⟨g', cap', cur, h0, _, hg, _⟩
    · cases h0
    · injection h0 with h0; injection h0 with h0; injection h0 with h0; subst h0; simp [World.frozen?, hg]
  have h1 := World.ownsRow.cellAt h i (by rw [Nat.mul_one]; exact hi)
  rw [h1]
  simp [bc, List.getElem?_map, List.getElem?_eq_getElem hi]
theorem infoU8 : (Try.prog.info? 5).map (fun i => (i.zero, i.size, i.bytes)) = some (some (.int .u8 0), 1, 1) := by kernel_rfl

theorem own_shape {w : World} {base : Nat} {e : TypeId} {size : Nat} {v : Value} {n : Nat} {xs : List Value} (h : w.ownsRow base e size v n xs) (hv : v ≠ .slice none 0 0) :
    ∃ g cap, v = .slice (some ⟨g, 0, none⟩) n cap ∧ base ≤ g ∧ n ≤ cap := by
  rcases h.2 with ⟨h1, _⟩ | ⟨g, cap, cur, h1, hb, _, hc, _⟩
  · exact absurd h1 hv
  · exact ⟨g, cap, h1, hb, hc⟩
theorem nil_ne (a : Addr) (n c : Nat) (w : World) : (binOp BinOp.eql 25 (.slice (some a) n c) (.slice none 0 0)).run Try.prog w = .ok (.bool false) w := by kernel_rfl
theorem nil_eq (w : World) : (binOp BinOp.eql 25 (.slice none 0 0) (.slice none 0 0)).run Try.prog w = .ok (.bool true) w := by kernel_rfl
/-- what a copy is -/
def CpPost (w : World) (L : List UInt8) (e : Ending) (w' : World) : Prop :=
  ∃ A c, e = .returned (.slice A L.length c) ∧ L.length ≤ c ∧ (A = none → c = 0) ∧ Byt w' A L ∧ (∀ a, A = some a → w.heap.size ≤ a.block) ∧ Below w.heap.size w w'
set_option maxRecDepth 20000 in
set_option maxHeartbeats 1000000 in
theorem clone_any (A : Option Addr) (c : Nat) (L : List UInt8) (w : World) (h : ByO w A L) (hc : L.length ≤ c) (h0 : A = none → c = 0) (hl : L.length ≤ 1000000) :
    Calls Try.prog 71 #[.slice A L.length c] w (CpPost w L) := by
  obtain ⟨i0, hi, hz0, hz1, hz2⟩ := info_parts infoU8
  cases A with
  | none =>
    have hc0 := h0 rfl
    have hL : L.length = 0 := by omega
    have hL2 := List.eq_nil_of_length_eq_zero hL
    subst hc0
    subst hL2
    have hne := nil_eq
    show Calls Try.prog _ #[.slice none 0 0] w _
    go_enter Try.func71, Try.ntmps71
    go_wp2
    go_ret
    exact ⟨none, 0, rfl, Nat.le_refl _, fun _ => rfl, Byt.nil _ _, fun _ h => (by cases h), g_refl⟩
  | some a =>
    have HO := hid h
    have HN := hid hl
    have hnews : ∀ j u, (bc L)[j]? = some u → (w.alloc (.cells #[] 5)).cell? (a.add j) = some u := fun j u hu => by
      obtain ⟨hj, rfl⟩ := bc_get hu
      obtain ⟨g, o, e, hg, hd⟩ := HO.out (by intro e; subst e; simp at hj)
      injection e with e
      subst e
      have e2 : (⟨g, o, none⟩ : Addr).add j = ⟨g, o + j, none⟩ := by unfold Addr.add; split <;> simp_all
      rw [e2, World.cell?_alloc_lt _ _ _ hg]
      exact hd j hj
    have hown : (w.alloc (.cells #[] 5)).ownsRow w.heap.size 5 1 (.slice (some ⟨w.heap.size, 0, none⟩) 0 0) 0 [] := World.ownsRow_made w #[] 0 (Nat.le_refl _) (by decide) rfl
    have HE := hid (And.intro hnews hown)
    clear h h0 hl hnews hown hc
    generalize hn : L.length = n at *
    have HL := hid hn
    clear hn
    have hne := nil_ne a n c
    go_enter Try.func71, Try.ntmps71
    go_wp2_with (at_builtin; refine wpList_append_own_at _ (by rfl) _ _ _ (by rfl) w.heap.size _ i0 (.int .u8 0) 1 1 Try.underlying25 hi hz0 hz1 hz2 rfl (by decide) (.slice (some ⟨w.heap.size, 0, none⟩) 0 0) 0 [] (by rfl) HE.out.2 a n c (bc L) (by rfl) (by rw [bc_len, HL.out, Nat.mul_one]) HE.out.1 (bc_one L) (by have := HN.out; unfold maxLen; omega) (by have := HN.out; omega) (by simp) ?_; intro v' w1 hown1 hgrow1 hz1' hat1; obtain ⟨g, cap, rfl, hbg, hcap⟩ := own_shape hown1 (fun e => by have := hz1'.1 e; cases this.1); have HO1 := hid hown1; have HG1 := hid hgrow1; clear hown1 hgrow1 hz1' hat1)
    go_ret
    have ho := HO1.out
    have hcap' : n ≤ cap := by omega
    simp only [Nat.zero_add, List.nil_append] at ho
    rw [← HL.out] at ho ⊢
    refine ⟨some ⟨g, 0, none⟩, cap, rfl, ?_, ?_, own_byt ho, ?_, ?_⟩
    · rw [HL.out]; exact hcap'
    · intro h; cases h
    · intro a h; injection h with h; subst h; exact hbg
    · exact (g_alloc g_refl _).grown HG1.out (by simp) (fun k h => by
        have : w.heap.size = k := by simpa [Value.ownBlock] using h
        omega)

theorem clip_any (A : Option Addr) (c : Nat) (n : Nat) (w : World) (hc : n ≤ c) (hn : n ≤ 1000000) :
    Calls Try.prog 70 #[.slice A n c] w fun e w' => e = .returned (.slice A n n) ∧ w' = w := by
  have h0 : (0 : Int) ≤ (n : Int) := by omega
  have h1 : (n : Int) ≤ (c : Int) := by omega
  go_enter Try.func70, Try.ntmps70
  go_wp2
  go_ret
  exact ⟨rfl, rfl⟩
/-- a copy in new memory, without room -/
theorem copied_any (A : Option Addr) (c : Nat) (L : List UInt8) (w : World) (h : ByO w A L) (hc : L.length ≤ c) (h0 : A = none → c = 0) (hl : L.length ≤ 1000000) :
    Calls Try.prog 44 #[.slice A L.length c] w fun e w' => ∃ B, e = .returned (.slice B L.length L.length) ∧ Byt w' B L ∧ (∀ a, B = some a → w.heap.size ≤ a.block) ∧ Below w.heap.size w w' := by
  have H := hid (And.intro h (And.intro hc (And.intro h0 hl)))
  clear h hc h0 hl
  go_enter Try.func44, Try.ntmps44
  go_wp2_with fail
  refine (clone_any A c L w H.out.1 H.out.2.1 H.out.2.2.1 H.out.2.2.2).mono ?_
  rintro e w1 ⟨B, d, rfl, hd, hn, hB, hf, hw⟩
  have HB := hid (And.intro hB (And.intro hf hw))
  have HD := hid hd
  clear hd hn hB hf hw
  go_wp2_with fail
  refine (clip_any B d L.length w1 HD.out H.out.2.2.2).mono ?_
  rintro e w2 ⟨rfl, rfl⟩
  go_wp2
  go_ret
  exact ⟨B, rfl, HB.out⟩
/-- a new reader -/
theorem of_any (A : Option Addr) (c : Nat) (L : List UInt8) (w : World) (h : ByO w A L) (hc : L.length ≤ c) (h0 : A = none → c = 0) (hl : L.length ≤ 1000000) :
    Calls Try.prog 14 #[.slice A L.length c] w fun e w' => ∃ r B, e = .returned (.pointer (some ⟨r, 0, none⟩)) ∧ RS w' r B L ⟨0, 0, 0⟩ ∧ w.heap.size ≤ r ∧ (∀ a, B = some a → w.heap.size ≤ a.block) ∧ Below w.heap.size w w' := by
  have H := hid (And.intro h (And.intro hc (And.intro h0 hl)))
  clear h hc h0 hl
  go_enter Try.func14, Try.ntmps14
  go_wp2_with fail
  refine (copied_any A c L w H.out.1 H.out.2.1 H.out.2.2.1 H.out.2.2.2).mono ?_
  rintro e w1 ⟨B, rfl, hB, hf, hw⟩
  have HB := hid (And.intro hB (And.intro hf hw))
  clear hB hf hw
  go_wp2
  go_ret
  refine ⟨w1.heap.size, B, rfl, ?_, HB.out.2.2.size, HB.out.2.1, g_alloc HB.out.2.2 _⟩
  refine ⟨by go_simp, by go_simp, by go_simp, by go_simp, fun i => by go_simp, by simp, HB.out.1.below (g_alloc g_refl _), fun hn a ha => ?_, ⟨Nat.zero_le _, fun _ => rfl⟩, H.out.2.2.2⟩
  obtain ⟨g, e, hd⟩ := HB.out.1 hn
  rw [e] at ha
  injection ha with ha
  subst ha
  exact Nat.ne_of_lt hd.1.1
theorem fault_any (r : Nat) (A : Option Addr) (L : List UInt8) (s : St) (w : World) (h : RS w r A L s) :
    Calls Try.prog 20 #[.pointer (some ⟨r, 0, none⟩)] w fun e w' => e = .returned (.tuple #[.int .i64 s.fa, .int .i64 s.fe]) ∧ Below w.heap.size w w' := by
  have c2 := h.c2
  have c3 := h.c3
  clear h
  go_enter Try.func20, Try.ntmps20
  go_wp2
  go_quiet (fail)
  go_wp2
  refine bodyPost_ret (v := .tuple #[.int .i64 s.fa, .int .i64 s.fe]) ?_ rfl ?_
  · simp [results, Try.results20, go_sem]
  · exact ⟨rfl, g_drewN g_refl _⟩
theorem at_any (r : Nat) (A : Option Addr) (L : List UInt8) (s : St) (w : World) (h : RS w r A L s) :
    Calls Try.prog 18 #[.pointer (some ⟨r, 0, none⟩)] w fun e w' => e = .returned (.int .i64 s.at_) ∧ w' = w := by
  have c1 := h.c1
  clear h
  go_enter Try.func18, Try.ntmps18
  go_wp2
  go_ret
  exact ⟨rfl, rfl⟩
/-- what End says -/
def fin (L : List UInt8) (s : St) : Int × Int := if s.fe = 0 ∧ s.at_ < L.length then ((s.at_ : Int), 5) else (s.fa, s.fe)
theorem fin_left {L : List UInt8} {s : St} (h : s.fe = 0) (h2 : s.at_ < L.length) : fin L s = ((s.at_ : Int), 5) := by unfold fin; rw [if_pos ⟨h, h2⟩]
theorem fin_else {L : List UInt8} {s : St} (h : ¬ (s.fe = 0 ∧ s.at_ < L.length)) : fin L s = (s.fa, s.fe) := by unfold fin; rw [if_neg h]
set_option maxRecDepth 20000 in
theorem end_any (r : Nat) (A : Option Addr) (L : List UInt8) (s : St) (w : World) (h : RS w r A L s) :
    Calls Try.prog 16 #[.pointer (some ⟨r, 0, none⟩)] w fun e w' => e = .returned (.tuple #[.int .i64 (fin L s).1, .int .i64 (fin L s).2]) ∧ Below w.heap.size w w' := by
  have H := hid h
  clear h
  go_enter Try.func16, Try.ntmps16
  go_wp2_with fail
  refine (failed_any r A L s w H.out).mono ?_
  rintro e w' ⟨rfl, rfl⟩
  by_cases h0 : s.fe = 0
  · generalize hb : decide (s.fe ≠ 0) = b0
    have hb0 : b0 = false := by rw [← hb, h0]; rfl
    subst hb0
    have HZ := hid h0
    clear hb h0
    go_wp2_with fail
    refine (left_any r A L s w' H.out).mono ?_
    rintro e w2 ⟨rfl, hb2⟩
    have HB := hid hb2
    have HR := hid (H.out.below hb2)
    clear hb2
    by_cases hl : s.at_ < L.length
    · have HF := hid (fin_left HZ.out hl)
      have hp : (0 : Int) < ((L.length - s.at_ : Nat) : Int) := by omega
      have c1 := HR.out.c1
      generalize L.length - s.at_ = q at *
      generalize s.at_ = m at *
      clear hl
      go_wp2
      refine bodyPost_ret (v := .tuple #[.int .i64 (m : Int), .int .i64 5]) ?_ rfl ?_
      · simp [results, Try.results16, go_sem]
      · rw [HF.out]; exact ⟨rfl, HB.out⟩
    · have HF := hid (fin_else (L := L) (s := s) (fun h => hl h.2))
      have hp : ¬ (0 : Int) < ((L.length - s.at_ : Nat) : Int) := by omega
      generalize L.length - s.at_ = q at *
      clear hl
      go_wp2_with fail
      refine (fault_any r A L s w2 HR.out).mono ?_
      rintro e w3 ⟨rfl, hb3⟩
      have HB3 := hid hb3
      clear hb3
      go_wp2
      refine bodyPost_ret (v := .tuple #[.int .i64 s.fa, .int .i64 s.fe]) ?_ rfl ?_
      · simp [results, Try.results16, go_sem]
      · rw [HF.out]; exact ⟨rfl, g_trans HB.out HB3.out⟩
  · generalize hb : decide (s.fe ≠ 0) = b0
    have hb0 : b0 = true := by rw [← hb]; simp [h0]
    subst hb0
    have HF := hid (fin_else (L := L) (s := s) (fun h => h0 h.1))
    clear hb h0
    go_wp2_with fail
    refine (fault_any r A L s w' H.out).mono ?_
    rintro e w3 ⟨rfl, hb3⟩
    have HB3 := hid hb3
    clear hb3
    go_wp2
    refine bodyPost_ret (v := .tuple #[.int .i64 s.fa, .int .i64 s.fe]) ?_ rfl ?_
    · simp [results, Try.results16, go_sem]
    · rw [HF.out]; exact ⟨rfl, HB3.out⟩
end Go.Proofs.Ytohnhjmiblgkkaa
