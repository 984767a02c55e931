/-
  PLAIN FACTS: the texts of valid objects, goals and subjects are read as these again.
-/
import Derived.Test.YtgfgfggoofjeeaaWParse
import Derived.Test.YtgfgfggoofjeeaaWText
namespace Go.Proofs.Ytgfgfggoofjeeaa
open Go.RowKit

theorem nb_bytes {s : ByteArray} (h : nb s = true) : ∀ x ∈ s.data.toList, nameByte x = true := by
  unfold nb isName at h
  simp only [Bool.and_eq_true, List.all_eq_true] at h
  exact h.2
theorem nb_none {s : ByteArray} (h : nb s = true) {c : UInt8} (hc : nameByte c = false) : c ∉ s.data.toList := fun hm => by
  rw [nb_bytes h c hm] at hc; cases hc
theorem count_none {l : List UInt8} {c : UInt8} (h : c ∉ l) : Lib.countByte l c = 0 := List.count_eq_zero.2 h
theorem index_none {l : List UInt8} {c : UInt8} (h : c ∉ l) : Lib.indexByte l c = -1 := by
  induction l with
  | nil => rfl
  | cons b l ih =>
    have hb : (b == c) = false := by
      refine beq_eq_false_iff_ne.2 (fun e => h ?_)
      rw [e]; exact List.mem_cons_self
    have hl := ih (fun hm => h (List.mem_cons_of_mem _ hm))
    rw [Lib.indexByte, hb, hl]; rfl
theorem index_at {l m : List UInt8} {c : UInt8} (h : c ∉ l) : Lib.indexByte (l ++ c :: m) c = l.length := by
  induction l with
  | nil => simp [Lib.indexByte]
  | cons b l ih =>
    have hb : (b == c) = false := by
      refine beq_eq_false_iff_ne.2 (fun e => h ?_)
      rw [e]; exact List.mem_cons_self
    have hl := ih (fun hm => h (List.mem_cons_of_mem _ hm))
    rw [List.cons_append, Lib.indexByte, hb, hl]
    have : ((l.length : Int) == -1) = false := beq_eq_false_iff_ne.2 (by omega)
    rw [this]
    simp

theorem cut_at {s : ByteArray} {l m : List UInt8} {c : UInt8} (hs : s.data.toList = l ++ c :: m) (h : c ∉ l) : cutB s c = (⟨l.toArray⟩, ⟨m.toArray⟩, true) := by
  have hi : Lib.indexByte s.data.toList c = l.length := by rw [hs]; exact index_at h
  have hlen : s.size = l.length + 1 + m.length := by
    have h0 := congrArg List.length hs
    rw [length_data, List.length_append, List.length_cons] at h0
    omega
  rw [cutB_yes hi]
  have h1 : s.extract 0 l.length = ⟨l.toArray⟩ := by
    apply WideShapes.bytes_inj
    rw [ByteArray.data_extract, Array.toList_extract, List.extract_eq_take_drop, hs, List.drop_zero, Nat.sub_zero]
    exact List.take_left' rfl
  have h2 : s.extract (l.length + 1) s.size = ⟨m.toArray⟩ := by
    apply WideShapes.bytes_inj
    rw [ByteArray.data_extract, Array.toList_extract, List.extract_eq_take_drop, hs, hlen]
    rw [show l ++ c :: m = (l ++ [c]) ++ m by simp, List.drop_left' (by simp)]
    rw [List.take_of_length_le (by omega)]
  rw [h1, h2]
theorem cut_none {s : ByteArray} {c : UInt8} (h : c ∉ s.data.toList) : cutB s c = (s, ByteArray.empty, false) :=
  cutB_no (by rw [index_none h]; omega)

theorem txt_list (a b : ByteArray) : (txt a b).data.toList = a.data.toList ++ 58 :: b.data.toList := by
  unfold txt; simp [ByteArray.data_append]
theorem gtxt_list (a b c : ByteArray) : (gtxt a b c).data.toList = a.data.toList ++ 58 :: (b.data.toList ++ 35 :: c.data.toList) := by
  unfold gtxt; simp [ByteArray.data_append]
theorem mk_list (a : ByteArray) : (⟨a.data.toList.toArray⟩ : ByteArray) = a := by cases a; simp
theorem nb58 : nameByte 58 = false := by decide
theorem nb35 : nameByte 35 = false := by decide

theorem div_txt {a b : ByteArray} (ha : nb a = true) (hb : nb b = true) : divF (txt a b) = (a, b, ByteArray.empty) := by
  have h1 : cutB (txt a b) 58 = (a, b, true) := by rw [cut_at (txt_list a b) (nb_none ha nb58), mk_list, mk_list]
  have h2 : cutB b 35 = (b, ByteArray.empty, false) := cut_none (nb_none hb nb35)
  unfold divF; rw [h1]; simp only; rw [h2]
theorem div_gtxt {a b c : ByteArray} (ha : nb a = true) (hb : nb b = true) : divF (gtxt a b c) = (a, b, c) := by
  have h1 : cutB (gtxt a b c) 58 = (a, ⟨(b.data.toList ++ 35 :: c.data.toList).toArray⟩, true) := by rw [cut_at (gtxt_list a b c) (nb_none ha nb58), mk_list]
  have h2 : cutB ⟨(b.data.toList ++ 35 :: c.data.toList).toArray⟩ 35 = (b, c, true) := by
    rw [cut_at (l := b.data.toList) (m := c.data.toList) (by simp) (nb_none hb nb35), mk_list, mk_list]
  unfold divF; rw [h1]; simp only; rw [h2]

theorem count_txt {a b : ByteArray} (ha : nb a = true) (hb : nb b = true) : Lib.countByte (txt a b).data.toList 58 = 1 ∧ Lib.countByte (txt a b).data.toList 35 = 0 := by
  have a1 := count_none (nb_none ha nb58); have a2 := count_none (nb_none ha nb35)
  have b1 := count_none (nb_none hb nb58); have b2 := count_none (nb_none hb nb35)
  unfold Lib.countByte at *
  rw [txt_list]; simp [List.count_append, a1, a2, b1, b2]
theorem count_gtxt {a b c : ByteArray} (ha : nb a = true) (hb : nb b = true) (hc : nb c = true ∨ c.data.toList = []) : Lib.countByte (gtxt a b c).data.toList 58 = 1 ∧ Lib.countByte (gtxt a b c).data.toList 35 = 1 := by
  have a1 := count_none (nb_none ha nb58); have a2 := count_none (nb_none ha nb35)
  have b1 := count_none (nb_none hb nb58); have b2 := count_none (nb_none hb nb35)
  have c1 : Lib.countByte c.data.toList 58 = 0 := by
    rcases hc with h | h
    · exact count_none (nb_none h nb58)
    · rw [h]; rfl
  have c2 : Lib.countByte c.data.toList 35 = 0 := by
    rcases hc with h | h
    · exact count_none (nb_none h nb35)
    · rw [h]; rfl
  unfold Lib.countByte at *
  rw [gtxt_list]; simp [List.count_append, a1, a2, b1, b2, c1, c2]

/-- the text of a valid object is read as it again -/
theorem parse_txt {a b : ByteArray} (ha : nb a = true) (hb : nb b = true) (most : Int) (hm : 0 ≤ most) : parseF (txt a b) 0 most = (a, b, ByteArray.empty, 0) := by
  obtain ⟨h1, h2⟩ := count_txt ha hb
  unfold parseF
  rw [h1, h2, div_txt ha hb, if_neg (by omega), if_neg (by rw [index_none (nb_none ha nb35)]; omega), if_pos (by simp [ha, hb])]
/-- the text of a valid goal is read as it again -/
theorem parse_gtxt {a b c : ByteArray} (ha : nb a = true) (hb : nb b = true) (hc : nb c = true) (least : Int) (hl : least ≤ 1) : parseF (gtxt a b c) least 1 = (a, b, c, 0) := by
  obtain ⟨h1, h2⟩ := count_gtxt ha hb (.inl hc)
  unfold parseF
  rw [h1, h2, div_gtxt ha hb, if_neg (by omega), if_neg (by rw [index_none (nb_none ha nb35)]; omega), if_pos (by simp [ha, hb, hc])]
theorem empty_list {c : ByteArray} (h : c.toList.isEmpty = true) : c.data.toList = [] := by
  rw [ByteArray.toList_eq, List.isEmpty_iff] at h; exact h
theorem nb_empty {c : ByteArray} (h : c.toList.isEmpty = true) : nb c = false := by
  unfold nb; rw [empty_list h]; rfl
/-- an empty Rel behind a sign is no name -/
theorem parse_gtxt_empty {a b c : ByteArray} (ha : nb a = true) (hb : nb b = true) (hc : c.toList.isEmpty = true) : (parseF (gtxt a b c) 1 1).2.2.2 = 6 := by
  obtain ⟨h1, h2⟩ := count_gtxt ha hb (.inr (empty_list hc))
  unfold parseF
  rw [h1, h2, div_gtxt ha hb, if_neg (by omega), if_neg (by rw [index_none (nb_none ha nb35)]; omega), if_neg (by simp [nb_empty hc])]
theorem eq_empty {c : ByteArray} (h : c.toList.isEmpty = true) : c = ByteArray.empty := WideShapes.bytes_inj (empty_list h)

theorem ok_parts {a b c : ByteArray} (h : okSub a b c = true) : nb a = true ∧ nb b = true ∧ (c.toList.isEmpty = true ∨ nb c = true) := by
  unfold okSub at h; simp only [Bool.and_eq_true, Bool.or_eq_true] at h; exact ⟨h.1.1, h.1.2, h.2⟩
/-- the text of a valid subject is read as it again -/
theorem parse_stxt {a b c : ByteArray} (h : okSub a b c = true) : parseF (stxt a b c) 0 1 = (a, b, c, 0) := by
  obtain ⟨ha, hb, hc⟩ := ok_parts h
  cases hz : c.toList.isEmpty
  · rw [stxt_full hz]
    exact parse_gtxt ha hb (by rcases hc with h | h; (rw [hz] at h; cases h); exact h) 0 (by omega)
  · rw [stxt_empty hz, parse_txt ha hb 1 (by omega), eq_empty hz]
/-- texts of different valid subjects differ -/
theorem stxt_inj {a b c d e f : ByteArray} (h : okSub a b c = true) (k : okSub d e f = true) (q : stxt a b c = stxt d e f) : a = d ∧ b = e ∧ c = f := by
  have h1 := parse_stxt h
  rw [q, parse_stxt k] at h1
  simp only [Prod.mk.injEq] at h1
  exact ⟨h1.1.symm, h1.2.1.symm, h1.2.2.1.symm⟩

end Go.Proofs.Ytgfgfggoofjeeaa
