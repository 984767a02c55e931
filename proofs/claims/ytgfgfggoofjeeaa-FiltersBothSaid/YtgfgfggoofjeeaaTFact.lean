/-
  PLAIN FACTS: both readings of a tuple's text are one; what was read is valid and has this text; texts of valid tuples are read again.
-/
import Derived.Test.YtgfgfggoofjeeaaTTc
import Derived.Test.YtgfgfggoofjeeaaMBack
namespace Go.Proofs.Ytgfgfggoofjeeaa
open Go.RowKit Go.Sort

theorem index_idx (l : List UInt8) (c : UInt8) (h : 0 < l.count c) : Lib.indexByte l c = (l.idxOf c : Int) := by
  induction l with
  | nil => simp at h
  | cons b l ih =>
    rw [Lib.indexByte, List.idxOf_cons]
    cases hb : b == c
    · have h2 : 0 < l.count c := by
        rw [List.count_cons, hb] at h
        simpa using h
      have h3 := ih h2
      have : ((l.idxOf c : Int) == -1) = false := beq_eq_false_iff_ne.2 (by omega)
      simp only [Bool.false_eq_true, if_false, h3, this, cond_false]
      push_cast; omega
    · simp
theorem index_cn (s : ByteArray) (c : UInt8) : Lib.indexByte s.data.toList c = if cn s c = 0 then -1 else (ix s c : Int) := by
  by_cases h : cn s c = 0
  · rw [if_pos h]; exact index_none (List.count_eq_zero.1 h)
  · rw [if_neg h]; exact index_idx _ _ (Nat.pos_of_ne_zero h)
theorem cutB_ix (s : ByteArray) (c : UInt8) : cutB s c = if cn s c = 0 then (s, ByteArray.empty, false) else (s.extract 0 (ix s c), s.extract (ix s c + 1) s.size, true) := by
  by_cases h : cn s c = 0
  · rw [if_pos h]; exact cutB_no (by rw [index_cn, if_pos h]; omega)
  · rw [if_neg h]; exact cutB_yes (by rw [index_cn, if_neg h])
theorem ext_take (s : ByteArray) (i : Nat) : (s.extract 0 i).data.toList = s.data.toList.take i := by
  rw [ByteArray.data_extract, Array.toList_extract, List.extract_eq_take_drop, List.drop_zero, Nat.sub_zero]
theorem ext_drop (s : ByteArray) (i : Nat) : (s.extract i s.size).data.toList = s.data.toList.drop i := by
  rw [ByteArray.data_extract, Array.toList_extract, List.extract_eq_take_drop]
  exact List.take_of_length_le (by rw [List.length_drop, length_data]; exact Nat.le_refl _)
theorem ext_mid (s : ByteArray) (i k : Nat) : (s.extract i k).data.toList = (s.data.toList.drop i).take (k - i) := by
  rw [ByteArray.data_extract, Array.toList_extract, List.extract_eq_take_drop]
theorem at_ix (s : ByteArray) (c : UInt8) (h : 0 < cn s c) : s.data.toList[ix s c]? = some c := by
  have hl : ix s c < s.data.toList.length := by rw [length_data]; exact ix_lt h
  rw [List.getElem?_eq_getElem hl]; exact congrArg some (List.getElem_idxOf hl)
/-- a text is what stands ahead of a byte, the byte, and what stands behind it -/
theorem split_ix (s : ByteArray) (c : UInt8) (h : 0 < cn s c) : s = s.extract 0 (ix s c) ++ ⟨#[c]⟩ ++ s.extract (ix s c + 1) s.size := by
  apply WideShapes.bytes_inj
  have hl : ix s c < s.data.toList.length := by rw [length_data]; exact ix_lt h
  have ha := at_ix s c h
  rw [List.getElem?_eq_getElem hl] at ha
  have h2 : s.data.toList = s.data.toList.take (ix s c) ++ c :: s.data.toList.drop (ix s c + 1) := by
    conv => lhs; rw [← List.take_append_drop (ix s c) s.data.toList, List.drop_eq_getElem_cons hl]
    rw [Option.some.inj ha]
  conv => lhs; rw [h2]
  simp [ByteArray.data_append]
  exact (List.take_of_length_le (by rw [List.length_drop, length_data]; exact Nat.le_refl _)).symm
theorem count_split (l : List UInt8) (c : UInt8) (i : Nat) : l.count c = (l.take i).count c + (l.drop i).count c := by
  rw [← List.count_append, List.take_append_drop]
/-- behind the first one, there is one less -/
theorem cn_tail (s : ByteArray) (c : UInt8) (h : 0 < cn s c) : cn (s.extract (ix s c + 1) s.size) c = cn s c - 1 := by
  have h1 : cn s c = s.data.toList.count c := rfl
  have h2 : cn (s.extract (ix s c + 1) s.size) c = (s.data.toList.drop (ix s c + 1)).count c := by unfold cn Lib.countByte; rw [ext_drop]
  have hl : ix s c < s.data.toList.length := by rw [length_data]; exact ix_lt h
  have ha := at_ix s c h
  rw [List.getElem?_eq_getElem hl] at ha
  have h3 := count_split s.data.toList c (ix s c)
  rw [List.drop_eq_getElem_cons hl, Option.some.inj ha, List.count_cons_self] at h3
  have h4 : (s.data.toList.take (ix s c)).count c = 0 := List.count_eq_zero.2 fun hm => by
    have h5 := List.idxOf_lt_length_of_mem hm
    have h6 : ix s c = (s.data.toList.take (ix s c)).idxOf c := by
      conv => lhs; unfold ix; rw [← List.take_append_drop (ix s c) s.data.toList, List.idxOf_append, if_pos hm]
    rw [List.length_take] at h5
    omega
  rw [h2, h1]; omega
/-- the tuple and the number of both -/
theorem cut_at64 (s : ByteArray) : ((cutB s 64).2.2 = false ∨ 0 ≤ Lib.indexByte (cutB s 64).2.1.data.toList 64) ↔ ¬ cn s 64 = 1 := by
  rw [cutB_ix]
  by_cases h : cn s 64 = 0
  · rw [if_pos h]; simp [h]
  · rw [if_neg h]
    simp only [Bool.true_eq_false, false_or]
    rw [index_cn, cn_tail s 64 (Nat.pos_of_ne_zero h)]
    by_cases h1 : cn s 64 = 1
    · rw [if_pos (by omega)]; simp [h1]
    · rw [if_neg (by omega)]; simp [h1]

/-- where both signs stand, if the second does not stand ahead of the first -/
theorem second (s : ByteArray) (h : 0 < cn s 58) (hij : ¬ ix s 35 < ix s 58) : cn (s.extract 0 (ix s 58)) 35 = 0 ∧ cn (s.extract (ix s 58 + 1) s.size) 35 = cn s 35 ∧ (ix s 58 + 1) + ix (s.extract (ix s 58 + 1) s.size) 35 = max (ix s 35) (ix s 58 + 1) := by
  have hl : ix s 58 < s.data.toList.length := by rw [length_data]; exact ix_lt h
  have ha := at_ix s 58 h
  have hno : (35 : UInt8) ∉ s.data.toList.take (ix s 58 + 1) := fun hm => by
    have h5 := List.idxOf_lt_length_of_mem hm
    have h6 : ix s 35 = (s.data.toList.take (ix s 58 + 1)).idxOf 35 := by
      conv => lhs; unfold ix; rw [← List.take_append_drop (ix s 58 + 1) s.data.toList, List.idxOf_append, if_pos hm]
    rw [List.length_take] at h5
    have h7 : ix s 35 = ix s 58 := by omega
    have h8 : 0 < cn s 35 := List.count_pos_iff.2 (List.mem_of_mem_take hm)
    have h9 := at_ix s 35 h8
    rw [h7, ha] at h9
    exact absurd h9 (by decide)
  have hno2 : (35 : UInt8) ∉ s.data.toList.take (ix s 58) := fun hm => hno (by
    rw [← Nat.min_eq_left (Nat.le_succ (ix s 58)), ← List.take_take] at hm; exact List.mem_of_mem_take hm)
  have hc : cn s 35 = (s.data.toList.take (ix s 58 + 1)).count 35 + (s.data.toList.drop (ix s 58 + 1)).count 35 := count_split _ _ _
  rw [List.count_eq_zero.2 hno, Nat.zero_add] at hc
  refine ⟨?_, ?_, ?_⟩
  · unfold cn Lib.countByte; rw [ext_take]; exact List.count_eq_zero.2 hno2
  · unfold cn Lib.countByte at *; rw [ext_drop]; exact hc.symm
  · have h1 : ix s 35 = (ix s 58 + 1) + (s.data.toList.drop (ix s 58 + 1)).idxOf 35 := by
      conv => lhs; unfold ix; rw [← List.take_append_drop (ix s 58 + 1) s.data.toList, List.idxOf_append, if_neg hno]
      rw [List.length_take]; omega
    have h2 : ix (s.extract (ix s 58 + 1) s.size) 35 = (s.data.toList.drop (ix s 58 + 1)).idxOf 35 := by unfold ix; rw [ext_drop]
    rw [h2]; omega
theorem ext_ext (s : ByteArray) (i k : Nat) : (s.extract i s.size).extract 0 (k - i) = s.extract i k := by
  apply WideShapes.bytes_inj
  rw [ext_take, ext_drop, ext_mid]
theorem ext_ext2 (s : ByteArray) (i k : Nat) : (s.extract i s.size).extract k (s.extract i s.size).size = s.extract (i + k) s.size := by
  apply WideShapes.bytes_inj
  rw [ext_drop, ext_drop, ext_drop, List.drop_drop]
/-- the parts, by the places of the signs -/
theorem div_ix (s : ByteArray) (h : 0 < cn s 58) (hij : ¬ ix s 35 < ix s 58) :
    divF s = (s.extract 0 (ix s 58), s.extract (ix s 58 + 1) (ix s 35), if cn s 35 = 0 then ⟨#[]⟩ else s.extract (ix s 35 + 1) s.size) := by
  obtain ⟨h1, h2, h3⟩ := second s h hij
  unfold divF
  rw [cutB_ix s 58, if_neg (by omega)]
  simp only
  rw [cutB_ix _ 35, h2]
  by_cases hc : cn s 35 = 0
  · rw [if_pos hc, if_pos hc, ix_none hc]; rfl
  · rw [if_neg hc, if_neg hc]
    have h4 : ¬ ix s 35 = ix s 58 := fun e => by
      have a1 := at_ix s 58 h; have a2 := at_ix s 35 (by omega)
      rw [e, a1] at a2; exact absurd a2 (by decide)
    have h5 : ix (s.extract (ix s 58 + 1) s.size) 35 = ix s 35 - (ix s 58 + 1) := by omega
    simp only
    rw [h5, ext_ext s _ _, ext_ext2, show ix s 58 + 1 + (ix s 35 - (ix s 58 + 1) + 1) = ix s 35 + 1 by omega]
theorem err_zero (b : Bool) : err b = 0 ↔ b = true := by cases b <;> simp [err]
theorem err_no {b : Bool} (h : ¬ b = true) : err b = 6 := by cases b <;> simp_all [err]
/-- the fields of a text in both programs -/
theorem parse_eq (s : ByteArray) (least : Int) (hl : least = 0 ∨ least = 1) :
    parseF s least 1 = if least = 1 ∧ (rpar s).2.2.2.1 = false then (⟨#[]⟩, ⟨#[]⟩, ⟨#[]⟩, 5) else if (rpar s).2.2.2.2 = 0 then ((rpar s).1, (rpar s).2.1, (rpar s).2.2.1, 0) else (⟨#[]⟩, ⟨#[]⟩, ⟨#[]⟩, (rpar s).2.2.2.2) := by
  have c58 : Lib.countByte s.data.toList 58 = cn s 58 := rfl
  have c35 : Lib.countByte s.data.toList 35 = cn s 35 := rfl
  have hl2 : 0 ≤ least ∧ least ≤ 1 := by omega
  by_cases h1 : cn s 58 = 1 ∧ ¬ 1 < cn s 35
  · by_cases h3 : ix s 35 < ix s 58
    · have e1 : 0 < cn s 35 := Nat.pos_of_ne_zero fun e => by have := ix_none e; have := ix_le s 58; omega
      have e2 : 0 ≤ Lib.indexByte (divF s).1.data.toList 35 := by
        have e3 : (divF s).1 = s.extract 0 (ix s 58) := by unfold divF; rw [cutB_ix s 58, if_neg (by omega)]
        have e4 : 0 < cn (s.extract 0 (ix s 58)) 35 := by
          have e5 := at_ix s 35 e1
          unfold cn Lib.countByte
          rw [ext_take]
          refine List.count_pos_iff.2 (List.mem_of_getElem? (i := ix s 35) ?_)
          rw [List.getElem?_take_of_lt h3]; exact e5
        rw [e3, index_cn, if_neg (by omega)]; omega
      have L : parseF s least 1 = (⟨#[]⟩, ⟨#[]⟩, ⟨#[]⟩, 5) := by unfold parseF; rw [c58, c35, if_neg (by omega), if_pos e2]
      have R : rpar s = (⟨#[]⟩, ⟨#[]⟩, ⟨#[]⟩, false, 5) := by unfold rpar; rw [if_pos (.inr (.inr h3))]
      rw [L, R]; simp
    · obtain ⟨s1, s2, s3⟩ := second s (by omega) h3
      have e2 : ¬ 0 ≤ Lib.indexByte (divF s).1.data.toList 35 := by
        have e3 : (divF s).1 = s.extract 0 (ix s 58) := by rw [div_ix s (by omega) h3]
        rw [e3, index_cn, if_pos s1]; omega
      have e4 : ¬ (¬ cn s 58 = 1 ∨ 1 < cn s 35 ∨ ix s 35 < ix s 58) := by omega
      by_cases h4 : cn s 35 = 0
      · have R : rpar s = (s.extract 0 (ix s 58), s.extract (ix s 58 + 1) (ix s 35), ⟨#[]⟩, false, err (nb (s.extract 0 (ix s 58)) && nb (s.extract (ix s 58 + 1) (ix s 35)))) := by unfold rpar; rw [if_neg e4, if_pos h4]
        rcases hl with rfl | rfl
        · have L : parseF s 0 1 = if (nb (s.extract 0 (ix s 58)) && nb (s.extract (ix s 58 + 1) (ix s 35))) = true then (s.extract 0 (ix s 58), s.extract (ix s 58 + 1) (ix s 35), ⟨#[]⟩, 0) else (⟨#[]⟩, ⟨#[]⟩, ⟨#[]⟩, 6) := by
            unfold parseF; rw [c58, c35, if_neg (by omega), if_neg e2, div_ix s (by omega) h3, if_pos h4]
            simp only [h4, decide_true, Bool.true_or, Bool.and_true]
          rw [L, R]
          cases (nb (s.extract 0 (ix s 58)) && nb (s.extract (ix s 58 + 1) (ix s 35))) <;> simp [err]
        · have L : parseF s 1 1 = (⟨#[]⟩, ⟨#[]⟩, ⟨#[]⟩, 5) := by unfold parseF; rw [c58, c35, if_pos (by omega)]
          rw [L, R]; simp
      · have R : rpar s = (s.extract 0 (ix s 58), s.extract (ix s 58 + 1) (ix s 35), s.extract (ix s 35 + 1) s.size, true, err (nb (s.extract 0 (ix s 58)) && nb (s.extract (ix s 58 + 1) (ix s 35)) && nb (s.extract (ix s 35 + 1) s.size))) := by unfold rpar; rw [if_neg e4, if_neg h4]
        have L : parseF s least 1 = if (nb (s.extract 0 (ix s 58)) && nb (s.extract (ix s 58 + 1) (ix s 35)) && nb (s.extract (ix s 35 + 1) s.size)) = true then (s.extract 0 (ix s 58), s.extract (ix s 58 + 1) (ix s 35), s.extract (ix s 35 + 1) s.size, 0) else (⟨#[]⟩, ⟨#[]⟩, ⟨#[]⟩, 6) := by
          unfold parseF; rw [c58, c35, if_neg (by omega), if_neg e2, div_ix s (by omega) h3, if_neg h4]
          simp only [h4, decide_false, Bool.false_or]
        rw [L, R]
        cases (nb (s.extract 0 (ix s 58)) && nb (s.extract (ix s 58 + 1) (ix s 35)) && nb (s.extract (ix s 35 + 1) s.size)) <;> simp [err]
  · have L : parseF s least 1 = (⟨#[]⟩, ⟨#[]⟩, ⟨#[]⟩, 5) := by unfold parseF; rw [c58, c35, if_pos (by omega)]
    have R : rpar s = (⟨#[]⟩, ⟨#[]⟩, ⟨#[]⟩, false, 5) := by unfold rpar; rw [if_pos (by omega)]
    rw [L, R]; simp
/-- both readings are one -/
theorem tup_eq (s : ByteArray) : ptup s = rtup s := by
  unfold ptup rtup
  by_cases h : cn s 64 = 1
  · rw [if_neg (fun k => (cut_at64 s).1 k h), if_neg (not_not_intro h)]
    have hc : cutB s 64 = (s.extract 0 (ix s 64), s.extract (ix s 64 + 1) s.size, true) := by rw [cutB_ix, if_neg (by omega)]
    rw [hc]
    simp only
    generalize s.extract 0 (ix s 64) = g
    generalize s.extract (ix s 64 + 1) s.size = u
    rw [parse_eq g 1 (.inr rfl), parse_eq u 0 (.inl rfl)]
    generalize rpar g = G
    generalize rpar u = U
    obtain ⟨g1, g2, g3, g4, g5⟩ := G
    obtain ⟨u1, u2, u3, u4, u5⟩ := U
    cases g4
    · simp
    · by_cases k1 : g5 = 0 <;> by_cases k2 : u5 = 0 <;> simp [k1, k2]
  · rw [if_pos ((cut_at64 s).2 h), if_pos h]
/-- what was read is valid, and has this text -/
theorem rpar_text (s : ByteArray) (h : (rpar s).2.2.2.2 = 0) :
    okSub (rpar s).1 (rpar s).2.1 (rpar s).2.2.1 = true ∧ stxt (rpar s).1 (rpar s).2.1 (rpar s).2.2.1 = s ∧ ((rpar s).2.2.2.1 = true → (nb (rpar s).1 && nb (rpar s).2.1 && nb (rpar s).2.2.1) = true ∧ gtxt (rpar s).1 (rpar s).2.1 (rpar s).2.2.1 = s) := by
  unfold rpar at *
  split at h
  · exact absurd h (by decide)
  · rename_i h1
    have h1' : cn s 58 = 1 ∧ ¬ 1 < cn s 35 ∧ ¬ ix s 35 < ix s 58 := by omega
    obtain ⟨c1, c2, c3⟩ := h1'
    obtain ⟨s1, s2, s3⟩ := second s (by omega) c3
    have sp := split_ix s 58 (by omega)
    split at h
    · rename_i h2
      rw [if_neg h1, if_pos h2]
      simp only [err_zero] at h
      have hj : ix s 35 = s.size := ix_none h2
      rw [hj] at h ⊢
      refine ⟨?_, ?_, fun e => by cases e⟩
      · unfold okSub; rw [h]; show (true && ((⟨#[]⟩ : ByteArray).toList.isEmpty || nb ⟨#[]⟩)) = true; decide +kernel
      · show stxt _ _ ⟨#[]⟩ = s
        rw [stxt_empty (by decide +kernel)]; exact sp.symm
    · rename_i h2
      rw [if_neg h1, if_neg h2]
      simp only [err_zero] at h
      have h4 : ¬ ix s 35 = ix s 58 := fun e => by
        have a1 := at_ix s 58 (by omega); have a2 := at_ix s 35 (by omega)
        rw [e, a1] at a2; exact absurd a2 (by decide)
      have h5 : ix (s.extract (ix s 58 + 1) s.size) 35 = ix s 35 - (ix s 58 + 1) := by omega
      have sq := split_ix (s.extract (ix s 58 + 1) s.size) 35 (by omega)
      rw [h5, ext_ext s, ext_ext2, show ix s 58 + 1 + (ix s 35 - (ix s 58 + 1) + 1) = ix s 35 + 1 by omega] at sq
      have hg : gtxt (s.extract 0 (ix s 58)) (s.extract (ix s 58 + 1) (ix s 35)) (s.extract (ix s 35 + 1) s.size) = s := by
        conv => rhs; rw [sp, sq]
        unfold gtxt; simp only [ByteArray.append_assoc]
      have hn : nb (s.extract (ix s 35 + 1) s.size) = true := by simp only [Bool.and_eq_true] at h; exact h.2
      have hz : (s.extract (ix s 35 + 1) s.size).toList.isEmpty = false := by
        cases e : (s.extract (ix s 35 + 1) s.size).toList.isEmpty
        · rfl
        · rw [nb_empty e] at hn; cases hn
      refine ⟨?_, ?_, fun _ => ⟨h, hg⟩⟩
      · unfold okSub; simp only [Bool.and_eq_true] at h; simp [h.1.1, h.1.2, hn]
      · rw [stxt_full hz]; exact hg
theorem rtup_good (s : ByteArray) (x : Tup) (h : rtup s = (x, 0)) : okT x = true ∧ txtT x = s := by
  unfold rtup at h
  split at h
  · exact absurd (congrArg (·.2) h) (by simp)
  · rename_i h1
    have sp := split_ix s 64 (by omega)
    split at h
    · rename_i h2
      split at h
      · rename_i h3
        obtain ⟨-, -, a1⟩ := rpar_text _ h2.2
        obtain ⟨b1, b2, -⟩ := rpar_text _ h3
        obtain ⟨a2, a3⟩ := a1 h2.1
        simp only [Prod.mk.injEq, and_true] at h
        subst h
        refine ⟨?_, ?_⟩
        · unfold okT; simp only; rw [a2, b1]; rfl
        · unfold txtT; simp only; rw [a3, b2]; exact sp.symm
      · exact absurd (congrArg (·.2) h) (by simpa using ‹_›)
    · split at h
      · rename_i h2 h3
        exact absurd (congrArg (·.2) h) (by simp only; exact fun e => h2 ⟨h3, e⟩)
      · exact absurd (congrArg (·.2) h) (by simp)
theorem nb_small {s : ByteArray} (h : nb s = true) : s.size ≤ 16 := by
  unfold nb isName at h
  simp only [Bool.and_eq_true, decide_eq_true_eq, length_data] at h
  exact h.1.2
theorem small_ok {x : Tup} (h : okT x = true) : Small x := by
  unfold okT at h
  simp only [Bool.and_eq_true] at h
  obtain ⟨d1, d2, d3⟩ := ok_parts h.2
  have d4 : x.f.size ≤ 16 := by
    rcases d3 with d3 | d3
    · rw [eq_empty d3]; exact Nat.zero_le _
    · exact nb_small d3
  have := nb_small h.1.1.1; have := nb_small h.1.1.2; have := nb_small h.1.2; have := nb_small d1; have := nb_small d2
  exact ⟨by omega, by omega, by omega, by omega, by omega, by omega⟩
theorem nb64 : nameByte 64 = false := by decide
theorem txt64 {a b c : ByteArray} (ha : nb a = true) (hb : nb b = true) (hc : c.toList.isEmpty = true ∨ nb c = true) : (64 : UInt8) ∉ (gtxt a b c).data.toList ∧ (64 : UInt8) ∉ (txt a b).data.toList := by
  have a1 := nb_none ha nb64; have b1 := nb_none hb nb64
  have c1 : (64 : UInt8) ∉ c.data.toList := by
    rcases hc with h | h
    · rw [empty_list h]; exact List.not_mem_nil
    · exact nb_none h nb64
  rw [gtxt_list, txt_list]
  simp [a1, b1, c1]
/-- the text of a valid tuple is read as it again -/
theorem back_tup {x : Tup} (h : okT x = true) : ptup (txtT x) = (x, 0) := by
  have h' := h
  unfold okT at h'
  simp only [Bool.and_eq_true] at h'
  obtain ⟨⟨⟨ha, hb⟩, hc⟩, hd⟩ := h'
  obtain ⟨d1, d2, d3⟩ := ok_parts hd
  have n1 := (txt64 ha hb (.inr hc)).1
  have n2 : (64 : UInt8) ∉ (stxt x.d x.e x.f).data.toList := by
    cases hz : x.f.toList.isEmpty
    · rw [stxt_full hz]; exact (txt64 d1 d2 d3).1
    · rw [stxt_empty hz]; exact (txt64 d1 d2 d3).2
  have hs : (txtT x).data.toList = (gtxt x.a x.b x.c).data.toList ++ 64 :: (stxt x.d x.e x.f).data.toList := by
    unfold txtT; simp [ByteArray.data_append]
  unfold ptup
  rw [cut_at hs n1, mk_list, mk_list]
  simp only
  rw [if_neg (by rw [index_none n2]; simp), parse_gtxt ha hb hc 1 (by omega), parse_stxt hd]
  simp

end Go.Proofs.Ytgfgfggoofjeeaa
