/-
  THE CONTRACT of the reference's Texts.
-/
import Derived.Test.YtohnhjmiblgkkaaCRef
namespace Go.Proofs.Ytohnhjmiblgkkaa
open Go.RowKit

/-- the forms of texts, one after the other -/
def tforms (xs : List ByteArray) : List UInt8 := xs.flatMap tform
theorem tforms_snoc (xs : List ByteArray) (x : ByteArray) : tforms (xs ++ [x]) = tforms xs ++ tform x := by simp [tforms]
theorem tform_len (x : ByteArray) : x.size ≤ (tform x).length ∧ (tform x).length ≤ x.size + 10 := by
  have := num_len x.size
  rw [tform, List.length_append]
  simp
  omega
theorem tforms_len (B : Nat) : ∀ (xs : List ByteArray), (∀ x ∈ xs, x.size ≤ B) → (tforms xs).length ≤ xs.length * (B + 10)
  | [], _ => by simp [tforms]
  | x :: r, h => by
    have ih := tforms_len B r (fun y hy => h y (List.mem_cons_of_mem _ hy))
    have := (tform_len x).2
    have := h x (List.mem_cons_self ..)
    show (tform x ++ tforms r).length ≤ _
    rw [List.length_append, List.length_cons, Nat.succ_mul]
    omega
/-- the strings of a slice -/
def SL (w : World) (b o : Nat) (xs : List ByteArray) : Prop := b < w.heap.size ∧ ∀ i (h : i < xs.length), w.cell? ⟨b, o + i, none⟩ = some (.string xs[i])
theorem SL.below {w w' : World} {b o : Nat} {xs : List ByteArray} (h : SL w b o xs) (hb : Below w.heap.size w w') : SL w' b o xs :=
  ⟨Nat.lt_of_lt_of_le h.1 hb.size, fun i hi => (hb.cell (p := ⟨b, o + i, none⟩) h.1).trans (h.2 i hi)⟩

theorem own_any {w : World} {base : Nat} {e : TypeId} {size : Nat} {v : Value} {n : Nat} {xs : List Value} (h : w.ownsRow base e size v n xs) : ∃ A d, v = .slice A n d := by
  rcases h.2 with ⟨rfl, hn⟩ | ⟨g, cap, cur, rfl, _⟩
  · exact ⟨none, 0, by rw [hn]⟩
  · exact ⟨_, _, rfl⟩
set_option maxRecDepth 20000 in
set_option maxHeartbeats 2000000 in
theorem rtexts_any (b o c : Nat) (xs : List ByteArray) (w : World) (h : SL w b o xs) (hn : xs.length ≤ 6) (hs : ∀ x ∈ xs, x.size ≤ 100000) :
    Calls Try.prog 24 #[.slice (some ⟨b, o, none⟩) xs.length c] w (MPost w (tforms xs)) := by
  obtain ⟨i0, hi, hz0, hz1, hz2⟩ := info_parts infoU8
  have H := hid (And.intro h (And.intro hn hs))
  clear h hs
  generalize hl : xs.length = n at *
  have HL := hid hl
  have HN := hid hn
  clear hl hn
  go_enter Try.func24, Try.ntmps24
  go_wp2
  go_loopg [3, 4] 6 (fun k yy z wr => ∃ (i : Nat), k = 6 - i ∧ i ≤ n ∧ z = .int .i64 i ∧ wr.ownsRow w.heap.size 5 1 yy (tforms (xs.take i)).length (bc (tforms (xs.take i))) ∧ Below w.heap.size w wr)
  case atStart => exact ⟨0, rfl, Nat.zero_le _, rfl, World.ownsRow_nil _ _ _ _, g_refl⟩
  case round =>
    obtain ⟨i, hk, hin, rfl, ho, hb⟩ := hrel
    have HK := hid (And.intro hk hin)
    have HO := hid ho
    have HB := hid hb
    clear hk ho hb
    by_cases hlt : i < n
    · have hlt2 : (i : Int) < (n : Int) := by omega
      have h0 : (0 : Int) ≤ (i : Int) := by omega
      have hix : i < xs.length := by have := HL.out; omega
      obtain ⟨x, hx⟩ : ∃ x, xs[i] = x := ⟨_, rfl⟩
      have HT := hid (show xs.take (i + 1) = xs.take i ++ [x] by rw [List.take_succ_eq_append_getElem hix, hx])
      have hc := (H.out.1.below HB.out).2 i hix
      rw [hx] at hc
      have HX := hid (H.out.2.2 x (by rw [← hx]; exact List.getElem_mem hix))
      have HM := hid (Nat.le_trans (tforms_len 100000 (xs.take i) (fun y hy => H.out.2.2 y (List.mem_of_mem_take hy))) (by rw [List.length_take]; exact Nat.mul_le_mul_right _ (by have := HN.out; have := HL.out; omega : _ ≤ 6)))
      have hs1 : (x.size : Int) ≤ 9223372036854775807 := by have := HX.out; omega
      have hs0 : (0 : Int) ≤ (x.size : Int) := by omega
      have HI := hid hlt
      have HCC := hid (H.out.1.2 i hix)
      rw [hx] at HCC
      generalize hT : tforms (xs.take i) = T at *
      have HTT := hid hT
      clear hT
      clear hin hlt hix hx
      go_wp2_with fail
      refine (rnumber_any x.size (by have := HX.out; omega) _).mono ?_
      rintro e w1 ⟨v1, rfl, ho1, hb1⟩
      obtain ⟨g, cap, rfl, hbg, hcap⟩ := own_shape ho1 (fun e => by
        rcases ho1.2 with ⟨_, hn⟩ | ⟨g, cap, cur, he, _⟩
        · have := (num_len x.size).1; omega
        · rw [e] at he; cases he)
      have HO1 := hid (And.intro ho1 hb1)
      have HS := hid (row_below HO.out hb1)
      have HB1 := hid (g_trans HB.out hb1)
      have hc1 := (hb1.cell (p := ⟨b, o + i, none⟩) (World.block_lt_of_cell? _ _ hc)).trans hc
      clear ho1 hb1 hbg hcap hc
      generalize hm : (num x.size).length = m at *
      have HMM := hid (show 1 ≤ m ∧ m ≤ 10 from by rw [← hm]; exact num_len x.size)
      have HMN := hid hm
      clear hm
      go_wp2_with (first
        | (at_builtin; refine wpList_append_own_at _ (by rfl) _ _ _ (by rfl) w.heap.size _ i0 (.int .u8 0) 1 1 Try.underlying25 hi hz0 hz1 hz2 rfl (by decide) _ T.length (bc T) (by rfl) HS.out ⟨g, 0, none⟩ m cap (bc (num x.size)) (by rfl) (by rw [bc_len, HMN.out, Nat.mul_one]) (by have := HO1.out.1.cells (g := g) rfl; exact this) (bc_one _) (by have := HM.out; have := HMM.out; unfold maxLen; omega) (by have := HM.out; have := HMM.out; omega) (by exact HB1.out.size) ?_; intro v2 w2 hown2 hgrow2 hz2' hat2; obtain ⟨g2, cap2, rfl, hbg2, hcap2⟩ := own_shape hown2 (fun e => by have := (hz2'.1 e).2; have := HMM.out; omega); have HF := hid (And.intro hown2 (HB1.out.grown hgrow2 HB1.out.size (fun k hk => (World.ownsRow.lt HS.out k hk).1))); have hc2 : w2.cell? ⟨b, o + i, none⟩ = some (.string x) := (HF.out.2.cell (p := ⟨b, o + i, none⟩) H.out.1.1).trans HCC.out; clear hown2 hgrow2 hz2' hat2 hbg2 hcap2)
        | (at_builtin; refine wp_app_str _ _ (by rfl) (by rfl) w.heap.size g2 cap2 (T.length + m) (bc T ++ bc (num x.size)) x (by rfl) (by rfl) (by exact HF.out.1) (by have := HM.out; have := HMM.out; have := HX.out; omega) (by exact HF.out.2.size) ?_; intro g3 cap3 w3 hown3 hgrow3 hat3; have HE := hid (And.intro hown3 (HF.out.2.grown hgrow3 HF.out.2.size (fun k hk => by injection hk with hk; subst hk; exact (World.ownsRow.lt HF.out.1 _ rfl).1))); clear hown3 hgrow3 hat3))
      go_roundg (6 - (i + 1))
      case measure => have := HK.out; have := HI.out; have := HN.out; omega
      case rel =>
        refine ⟨i + 1, rfl, HI.out, congrArg (Value.int .i64) (show wrap64 ((i : Int) + 1) = ((i + 1 : Nat) : Int) by have h1 : i < n := HI.out; have h2 : n ≤ 6 := HN.out; unfold wrap64; omega), ?_, HE.out.2⟩
        have h1 := HE.out.1
        rw [HT.out, tforms_snoc, HTT.out]
        have e1 : (T ++ tform x).length = T.length + m + x.size := by
          have e0 : x.data.toList.length = x.size := by simp
          rw [List.length_append, tform, List.length_append, HMN.out, e0]; omega
        have e2 : bc (T ++ tform x) = bc T ++ bc (num x.size) ++ byteCells x := by simp [bc, tform, byteCells]
        rw [e1, e2]
        exact h1
    · have hlt2 : ¬ (i : Int) < (n : Int) := by omega
      have he : i = n := by omega
      have HE := hid (show xs.take i = xs by rw [he, ← HL.out, List.take_length])
      rw [HE.out] at HO
      obtain ⟨A, d, hv⟩ := own_any HO.out
      subst hv
      clear hlt he hin
      go_wp2
      go_ret
      exact ⟨_, rfl, HO.out, HB.out⟩
end Go.Proofs.Ytohnhjmiblgkkaa
