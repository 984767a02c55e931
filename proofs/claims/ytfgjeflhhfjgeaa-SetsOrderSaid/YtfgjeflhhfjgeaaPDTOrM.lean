/-
  THE CONTRACT of the reference's With; the law's same and Change.
  THE CONTRACTS of the law's small and lives (layer 6).
  PLAIN FACTS about the law's sets: valid tuples, sorted lists of them, changes and back; calls in the words that the laws want.
  ARGUMENTS AS DATA: a list of pairs of bytes in a struct, and a pair of bytes by value, taken apart.
  ARGUMENTS AS DATA: sets as the laws draw them (a list of pairs and a list of triples of bytes), and three bytes by value.
  THE CONTRACT of the law's S.Of: some list of at most 50 tuples, valid and sorted.
  BLOCKS that a region makes, and stores into: a value of several cells is stored by one law, and the world behind it stands under a name of its own.
  THE WALK of SetsOrder.
  SetsOrder: for every set and every two changes the call returns true, and they read as before. No condition.
-/
import Derived.Test.YtfgjeflhhfjgeaaDTGls
import Derived.Test.YtfgjeflhhfjgeaaTSm
import Derived.Test.YtfgjeflhhfjgeaaFPar
import Derived.Test.YtfgjeflhhfjgeaaTOf
import Derived.ProofKit
import Derived.OpenShut
import Derived.ChangeSame
import Derived.Carry
import Derived.Deep.Slices
import Derived.Deep.RegionHeld
import Derived.Deep.MidRow
namespace Go.Proofs.Ytfgjeflhhfjgeaa.DT
open Go.RowKit Go.Deep

theorem some_del {l : List Tup} (hl : Asc cmpT l) (k : Tup) : someL l [k] true false false = Tr.del k l := by
  unfold someL
  refine (srt_of tot (Tr.del_asc hl) fun t => ?_).symm
  unfold flt
  rw [Tr.mem_del, List.mem_filter, List.mem_append]
  unfold sel
  by_cases h1 : t ∈ l <;> by_cases h2 : t = k <;> simp [h1, h2]
theorem some_ins {l : List Tup} (hl : Asc cmpT l) {k : Tup} (hk : k ∉ l) : someL l [k] true true true = ins cmpT k l := by
  unfold someL
  refine (srt_of tot (asc_ins tot k l hl hk) fun t => ?_).symm
  unfold flt
  rw [mem_ins, List.mem_filter, List.mem_append]
  unfold sel
  by_cases h1 : t ∈ l <;> by_cases h2 : t = k <;> simp [h1, h2]
theorem wth_asc {l : List Tup} (hl : Asc cmpT l) (k : Tup) (d : Bool) : Asc cmpT (wth l k d).1 := by
  unfold wth
  repeat' split
  all_goals first | exact List.Pairwise.nil | exact Tr.del_asc hl | exact hl | (rename_i h _; exact asc_ins tot k l hl h)
theorem wth_ok {l : List Tup} (hl : ∀ t ∈ l, okT t = true) (k : Tup) (d : Bool) : ∀ t ∈ (wth l k d).1, okT t = true := by
  unfold wth
  split
  · intro t h; cases h
  · rename_i ho
    split
    · intro t h; exact hl t (Tr.mem_del.1 h).1
    · split
      · exact hl
      · split
        · intro t h; cases h
        · intro t h
          rcases (mem_ins cmpT k t l).1 h with e | h
          · rw [e]; cases hk : okT k
            · exact absurd hk ho
            · rfl
          · exact hl t h
theorem ok_fits {t : Tup} (h : okT t = true) : Fits t := by
  obtain ⟨h1, h2, h3, h4⟩ := okT_parts h
  unfold okSub at h4
  simp only [Bool.and_eq_true, Bool.or_eq_true] at h4
  have g : ∀ s : ByteArray, nb s = true → s.size ≤ maxLen := fun s h => Nat.le_trans (nb_small h) (by decide)
  exact ⟨g _ h1, g _ h2, g _ h3, g _ h4.1.1, g _ h4.1.2, h4.2.elim (fun h => by rw [empty_of h]; exact Nat.zero_le _) (g _)⟩
/-- what the reference's With gives -/
def GivesW (w : World) (r : List Tup × Int) (e : Ending) (w' : World) : Prop := ∃ A c, e = .returned (.tuple #[.slice A r.1.length c, .int .i64 r.2]) ∧ Row w' A r.1 ∧ Below w.heap.size w w'
theorem rtcheck_f (x : Tup) (k : Int) (w : World) (hx : Fits x) (h : err (okT x) = k) :
    Calls Try.prog 33 #[.agg #[.string x.a, .string x.b, .string x.c, .string x.d, .string x.e, .string x.f]] w fun e w' => e = .returned (.int .i64 k) ∧ Below w.heap.size w w' := by subst h; exact rtcheck x w hx
theorem rin_f (A : Option Addr) (l : List Tup) (c : Nat) (x : Tup) (w : World) (v : Int) (hR : Row w A l) (hn : l.length ≤ 10000) (h : inI x l = v) :
    Calls Try.prog 26 #[.slice A l.length c, .agg #[.string x.a, .string x.b, .string x.c, .string x.d, .string x.e, .string x.f]] w fun e w' => e = .returned (.int .i64 v) ∧ Below w.heap.size w w' := by
  subst h; exact (rin A l c x w hR hn).mono fun _ _ h => ⟨h.1, h.2.toBelow⟩
theorem rsome_f (A B : Option Addr) (x : List Tup) (k : Tup) (ca cb : Nat) (a c b : Bool) (w : World) (L : List Tup) (hR : Row w A x) (hS : Row w B [k]) (hF : ∀ t ∈ x, Fits t) (hG : Fits k) (hx : x.length ≤ 4000) (h : someL x [k] a c b = L) :
    Calls Try.prog 34 #[.slice A x.length ca, .slice B 1 cb, .bool a, .bool c, .bool b] w fun e w' => ∃ A c, e = .returned (.slice A L.length c) ∧ Row w' A L ∧ Below w.heap.size w w' := by
  subst h
  refine (rsome A B x [k] ca cb a c b w hR hS hF (fun t ht => by rw [List.mem_singleton.1 ht]; exact hG) hx (by simp)).mono ?_
  rintro _ _ ⟨v, rfl, hO, hg⟩
  obtain ⟨A', c', rfl, hR', -, -⟩ := hO.row
  exact ⟨A', c', rfl, hR', hg.toBelow⟩
theorem rw_world (w : World) (k : Tup) (d : Bool) (W : World) (hW : W = w.alloc (.cells #[.string k.a, .string k.b, .string k.c, .string k.d, .string k.e, .string k.f, .bool d] 49 (0, 0))) :
    Below w.heap.size w W ∧ (W.cell? ⟨w.heap.size, 0, none⟩ = some (.string k.a) ∧ W.cell? ⟨w.heap.size, 1, none⟩ = some (.string k.b) ∧ W.cell? ⟨w.heap.size, 2, none⟩ = some (.string k.c) ∧ W.cell? ⟨w.heap.size, 3, none⟩ = some (.string k.d) ∧ W.cell? ⟨w.heap.size, 4, none⟩ = some (.string k.e) ∧ W.cell? ⟨w.heap.size, 5, none⟩ = some (.string k.f) ∧ W.cell? ⟨w.heap.size, 6, none⟩ = some (.bool d)) := by
  have n := new_at w (.cells #[.string k.a, .string k.b, .string k.c, .string k.d, .string k.e, .string k.f, .bool d] 49 (0, 0))
  rw [← hW] at n
  have e := fun j => box_cell n j
  exact ⟨by rw [hW]; exact g_alloc g_refl _, ⟨(e 0).trans rfl, (e 1).trans rfl, (e 2).trans rfl, (e 3).trans rfl, (e 4).trans rfl, (e 5).trans rfl, (e 6).trans rfl⟩⟩
theorem row_one (w : World) (k : Tup) : Row (w.alloc (.cells #[.string k.a, .string k.b, .string k.c, .string k.d, .string k.e, .string k.f] 47 (0, 0))) (some ⟨w.heap.size, 0, none⟩) [k] := fun _ =>
  ⟨w.heap.size, 0, rfl, by simp, fun i hi c v hv => by
    have hi0 : i = 0 := by simpa using hi
    subst hi0
    have h6 := box6p w k 47
    have hc := enc_lt hv
    simp only [List.getElem_cons_zero] at hv
    simp only [Nat.zero_mul, Nat.zero_add]
    match c, hc with
    | 0, _ => cases hv; exact h6.1
    | 1, _ => cases hv; exact h6.2.1
    | 2, _ => cases hv; exact h6.2.2.1
    | 3, _ => cases hv; exact h6.2.2.2.1
    | 4, _ => cases hv; exact h6.2.2.2.2.1
    | 5, _ => cases hv; exact h6.2.2.2.2.2⟩
set_option maxRecDepth 20000 in
set_option maxHeartbeats 2000000 in
theorem rwith_any (A : Option Addr) (l : List Tup) (c : Nat) (k : Tup) (d : Bool) (w : World) (hR : Row w A l) (hF : ∀ t ∈ l, Fits t) (hk : Fits k) (hl : Asc cmpT l) (hn : l.length ≤ 4000) :
    Calls Try.prog 12 #[.slice A l.length c, .agg #[.string k.a, .string k.b, .string k.c, .string k.d, .string k.e, .string k.f, .bool d]] w (GivesW w (wth l k d)) := by
  obtain ⟨hA, hC⟩ := rw_world w k d _ rfl
  have HA := hid hA
  have HC := hid hC
  have HR := hid (hR.below hA)
  have HF := hid hF
  have HK := hid hk
  have HN := hid hn
  cases ho : okT k
  · have e : wth l k d = ([], 6) := by unfold wth; rw [if_pos ho]
    rw [e]
    have HP := hid (fun W => rtcheck_f k 6 W hk (by rw [ho]; rfl))
    clear hA hC hR hF hk hl hn ho e
    go_enter Try.func12, Try.ntmps12
    go_wp2_with fail
    refine (HP.out _).mono ?_
    rintro _ w1 ⟨rfl, hb1⟩
    go_wp2
    go_ret2
    exact ⟨none, 0, rfl, Row.nil _ _, g_trans HA.out hb1⟩
  · have HP := hid (fun W => rtcheck_f k 0 W hk (by rw [ho]; rfl))
    cases d
    · by_cases hm : k ∈ l
      · have e : wth l k false = (l, 0) := by unfold wth; rw [if_neg (by rw [ho]; decide), if_neg Bool.noConfusion, if_pos hm]
        rw [e]
        have HI := hid (fun W (h : Row W A l) => rin_f A l c k W 1 h (Nat.le_trans hn (by decide)) (by unfold inI; rw [if_pos hm]))
        clear hA hC hR hF hk hl hn ho e hm
        go_enter Try.func12, Try.ntmps12
        go_wp2_with fail
        refine (HP.out _).mono ?_
        rintro _ w1 ⟨rfl, hb1⟩
        obtain ⟨s0, s1, s2, s3, s4, s5, s6⟩ := keep7 hb1 HC.out
        have HR1 := hid (HR.out.below hb1)
        go_wp2_with fail
        refine (HI.out _ HR1.out).mono ?_
        rintro _ w2 ⟨rfl, hb2⟩
        clear s0 s1 s2 s3 s4 s5 s6
        go_wp2
        go_ret2
        exact ⟨A, c, rfl, HR1.out.below hb2, g_trans (g_trans HA.out hb1) hb2⟩
      · have e : wth l k false = (ins cmpT k l, 0) := by unfold wth; rw [if_neg (by rw [ho]; decide), if_neg Bool.noConfusion, if_neg hm, if_neg (by omega)]
        rw [e]
        have HI := hid (fun W (h : Row W A l) => rin_f A l c k W 0 h (Nat.le_trans hn (by decide)) (by unfold inI; rw [if_neg hm]))
        have HS := hid (some_ins hl hm)
        have hlt : ¬ (4096 : Int) ≤ (l.length : Int) := by omega
        clear hA hC hR hF hk hl hn ho e hm
        go_enter Try.func12, Try.ntmps12
        go_wp2_with fail
        refine (HP.out _).mono ?_
        rintro _ w1 ⟨rfl, hb1⟩
        obtain ⟨s0, s1, s2, s3, s4, s5, s6⟩ := keep7 hb1 HC.out
        have HR1 := hid (HR.out.below hb1)
        go_wp2_with fail
        refine (HI.out _ HR1.out).mono ?_
        rintro _ w2 ⟨rfl, hb2⟩
        have HR2 := hid (HR1.out.below hb2)
        have hb12 := g_trans hb1 hb2
        clear s0 s1 s2 s3 s4 s5 s6
        obtain ⟨s0, s1, s2, s3, s4, s5, s6⟩ := keep7 hb12 HC.out
        go_wp2_with fail
        refine (rsome_f A _ l k c 1 true true true _ _ (HR2.out.below (g_alloc g_refl _)) (row_one w2 k) HF.out HK.out HN.out HS.out).mono ?_
        rintro _ w3 ⟨B, cB, rfl, hRB, hb3⟩
        go_wp2
        go_ret2
        exact ⟨B, cB, rfl, hRB, g_trans (g_alloc (g_trans HA.out hb12) _) hb3⟩
    · have e : wth l k true = (Tr.del k l, 0) := by unfold wth; rw [if_neg (by rw [ho]; decide), if_pos rfl]
      rw [e]
      have HS := hid (some_del hl k)
      clear hA hC hR hF hk hl hn ho e
      go_enter Try.func12, Try.ntmps12
      go_wp2_with fail
      refine (HP.out _).mono ?_
      rintro _ w1 ⟨rfl, hb1⟩
      obtain ⟨s0, s1, s2, s3, s4, s5, s6⟩ := keep7 hb1 HC.out
      have HR1 := hid (HR.out.below hb1)
      go_wp2_with fail
      refine (rsome_f A _ l k c 1 true false false _ _ (HR1.out.below (g_alloc g_refl _)) (row_one w1 k) HF.out HK.out HN.out HS.out).mono ?_
      rintro _ w3 ⟨B, cB, rfl, hRB, hb3⟩
      go_wp2
      go_ret2
      exact ⟨B, cB, rfl, hRB, g_trans (g_alloc (g_trans HA.out hb1) _) hb3⟩
theorem rsame_f (A B : Option Addr) (l m : List Tup) (c d : Nat) (w : World) (n : Nat) (v : Int) (hR : Row w A l) (hS : Row w B m) (hl : l.length = n) (hm : m.length = n) (hn : n ≤ 10000) (h : sameI l m = v) :
    Calls Try.prog 15 #[.slice A n c, .slice B n d] w fun e w' => e = .returned (.int .i64 v) ∧ Below w.heap.size w w' := by
  subst h; exact (rsame_n A B l m n n c d w hR hS hl hm hn).mono fun _ _ h => ⟨h.1, h.2.toBelow⟩
set_option maxRecDepth 20000 in
set_option maxHeartbeats 2000000 in
theorem lsame_any {w : World} {ov : Value} {T : Tr} {m : List Tup} (h : MapL w ov T m) (A : Option Addr) (l : List Tup) (c : Nat) (v : Int) (hR : Row w A l) (hm : m.length ≤ 10000) (hv : sameI m l = v) :
    Calls Try.prog 9 #[.agg #[ov, .pointer T.ad], .slice A l.length c] w fun e w' => e = .returned (.int .i64 v) ∧ Below w.heap.size w w' := by
  have hA : Below w.heap.size w (w.alloc (.cells #[ov, .pointer T.ad] 35 (0, 0))) := g_alloc g_refl _
  have HA := hid hA
  have HBP := hid (box2p w ov (.pointer T.ad) 35)
  have HL := hid (h.below hA)
  have HR := hid (hR.below hA)
  have HV := hid hv
  have HN := hid hm
  by_cases he : m.length = l.length
  · have HE := hid he
    rw [← he]
    have hee : ((m.length : Int) == (m.length : Int)) = true := by simp
    clear h hR hA hv hm he
    go_enter Try.func9, Try.ntmps9
    go_wp2_with fail
    refine (list_r HL.out (Nat.le_trans HN.out (by decide))).mono ?_
    rintro _ w1 ⟨B, rfl, hRB, hb1⟩
    have HRB := hid hRB
    have HL1 := hid (HL.out.below hb1)
    have HR1 := hid (HR.out.below hb1)
    obtain ⟨k0, k1⟩ := keep2 hb1 HBP.out
    clear hRB
    go_wp2_with fail
    refine (len_l HL1.out).mono ?_
    rintro _ w2 ⟨rfl, hb2⟩
    clear k0 k1
    go_wp2_with fail
    refine (rsame_f B A m l _ _ _ m.length v (HRB.out.below hb2) (HR1.out.below hb2) rfl HE.out.symm HN.out HV.out).mono ?_
    rintro _ w3 ⟨rfl, hb3⟩
    go_wp2
    go_ret
    exact ⟨rfl, g_trans (g_trans (g_trans HA.out hb1) hb2) hb3⟩
  · have e : v = 0 := by rw [← hv]; exact sameI_len he
    subst e
    have hee : ((m.length : Int) != (l.length : Int)) = true := bne_iff_ne.2 (by omega)
    have hne : ¬ (m.length : Int) = (l.length : Int) := by omega
    clear h hR hA hv hm he
    go_enter Try.func9, Try.ntmps9
    go_wp2_with fail
    refine (list_r HL.out (Nat.le_trans HN.out (by decide))).mono ?_
    rintro _ w1 ⟨B, rfl, hRB, hb1⟩
    have HL1 := hid (HL.out.below hb1)
    obtain ⟨k0, k1⟩ := keep2 hb1 HBP.out
    clear hRB
    go_wp2_with fail
    refine (len_l HL1.out).mono ?_
    rintro _ w2 ⟨rfl, hb2⟩
    clear k0 k1
    go_wp2
    go_ret
    exact ⟨rfl, g_trans (g_trans HA.out hb1) hb2⟩
theorem res7 {a b : World} {g : Nat} {t : TypeId} {x0 x1 x2 x3 x4 x5 x6 : Value} (h : a.heap[g]? = some (.cells #[x0, x1, x2, x3, x4, x5, x6] t (0, 0))) (k : Below a.heap.size a b) :
    (b.frozen? ⟨g, 0, none⟩ = false ∧ b.frozen? ⟨g, 1, none⟩ = false ∧ b.frozen? ⟨g, 2, none⟩ = false ∧ b.frozen? ⟨g, 3, none⟩ = false ∧ b.frozen? ⟨g, 4, none⟩ = false ∧ b.frozen? ⟨g, 5, none⟩ = false ∧ b.frozen? ⟨g, 6, none⟩ = false) ∧ (b.cell? ⟨g, 0, none⟩ = some x0 ∧ b.cell? ⟨g, 1, none⟩ = some x1 ∧ b.cell? ⟨g, 2, none⟩ = some x2 ∧ b.cell? ⟨g, 3, none⟩ = some x3 ∧ b.cell? ⟨g, 4, none⟩ = some x4 ∧ b.cell? ⟨g, 5, none⟩ = some x5 ∧ b.cell? ⟨g, 6, none⟩ = some x6) := by
  have e := (k.block g (Array.getElem?_eq_some_iff.1 h).1).trans h
  exact ⟨⟨box_frozen e 0, box_frozen e 1, box_frozen e 2, box_frozen e 3, box_frozen e 4, box_frozen e 5, box_frozen e 6⟩, ⟨(box_cell e 0).trans rfl, (box_cell e 1).trans rfl, (box_cell e 2).trans rfl, (box_cell e 3).trans rfl, (box_cell e 4).trans rfl, (box_cell e 5).trans rfl, (box_cell e 6).trans rfl⟩⟩
theorem set_7 {W : World} {b p o : Nat} {u0 u1 u2 u3 u4 u5 u6 x : Value} (h : ¬ b = p) (k : W.cell? ⟨b, o, none⟩ = some x) :
    (((((((W.setCell ⟨p, 0, none⟩ u0).setCell ⟨p, 1, none⟩ u1).setCell ⟨p, 2, none⟩ u2).setCell ⟨p, 3, none⟩ u3).setCell ⟨p, 4, none⟩ u4).setCell ⟨p, 5, none⟩ u5).setCell ⟨p, 6, none⟩ u6).cell? ⟨b, o, none⟩ = some x :=
  set_c h (set_c h (set_c h (set_c h (set_c h (set_c h (set_c h k))))))
theorem one_f (p q : Nat) (w : World) (hp : p < 256) (hq : q < 256) (t : Tup) (h : one p q = t) :
    Calls Try.prog 25 #[.agg #[.int .u8 p, .int .u8 q]] w fun e w' => e = .returned (.agg #[.string t.a, .string t.b, .string t.c, .string t.d, .string t.e, .string t.f]) ∧ Below w.heap.size w w' := by
  subst h; exact (one_any p q w hp hq).mono fun _ _ h => ⟨h.1, h.2.toBelow⟩
set_option maxRecDepth 20000 in
set_option maxHeartbeats 2000000 in
theorem change_any (p q r : Nat) (w : World) (hp : p < 256) (hq : q < 256) (hr : r < 256) (t : Tup) (h : one p q = t) (z : Bool) (hz : decide (r % 2 = 1) = z) :
    Calls Try.prog 10 #[.agg #[.int .u8 p, .int .u8 q, .int .u8 r]] w fun e w' => e = .returned (.agg #[.string t.a, .string t.b, .string t.c, .string t.d, .string t.e, .string t.f, .bool z]) ∧ Below w.heap.size w w' := by
  have HO := hid (fun W => one_f p q W hp hq t h)
  have hz2 : (((r : Int).tmod 2) == 1) = z := by
    rw [← hz]
    rw [show (r : Int).tmod 2 = ((r % 2 : Nat) : Int) by rw [Int.tmod_eq_emod_of_nonneg (by omega)]; omega]
    by_cases h : r % 2 = 1
    · rw [h]; rfl
    · have : r % 2 = 0 := by omega
      rw [this]; rfl
  have r0 : (0 : Int) ≤ (r : Int) := by omega
  have r1 : (r : Int) < 256 := by omega
  obtain ⟨w1, h1⟩ : ∃ w1, w.alloc (.cells #[.int .u8 p, .int .u8 q, .int .u8 r] 51 (0, 0)) = w1 := ⟨_, rfl⟩
  have s1 : w1.heap.size = w.heap.size + 1 := by rw [← h1]; simp
  have b1 : Below w.heap.size w w1 := by rw [← h1]; exact g_alloc g_refl _
  have m := new_at w (.cells #[.int .u8 p, .int .u8 q, .int .u8 r] 51 (0, 0))
  rw [h1] at m
  have HB := hid (g_alloc b1 (.cells #[.string ⟨#[]⟩, .string ⟨#[]⟩, .string ⟨#[]⟩, .string ⟨#[]⟩, .string ⟨#[]⟩, .string ⟨#[]⟩, .bool false] 49 (0, 0)))
  have m2 := new_old (o := .cells #[.string ⟨#[]⟩, .string ⟨#[]⟩, .string ⟨#[]⟩, .string ⟨#[]⟩, .string ⟨#[]⟩, .string ⟨#[]⟩, .bool false] 49 (0, 0)) m
  have r2 := new_at w1 (.cells #[.string ⟨#[]⟩, .string ⟨#[]⟩, .string ⟨#[]⟩, .string ⟨#[]⟩, .string ⟨#[]⟩, .string ⟨#[]⟩, .bool false] 49 (0, 0))
  rw [s1] at r2
  have HM := hid m2
  have HR := hid r2
  rw [← h1] at HB HM HR
  clear h hz s1 b1 m m2 r2 h1 w1
  go_enter Try.func10, Try.ntmps10
  go_wp2_with fail
  generalize hA1 : ((w.alloc (.cells #[.int .u8 p, .int .u8 q, .int .u8 r] 51 (0, 0))).alloc (.cells #[.string ⟨#[]⟩, .string ⟨#[]⟩, .string ⟨#[]⟩, .string ⟨#[]⟩, .string ⟨#[]⟩, .string ⟨#[]⟩, .bool false] 49 (0, 0))) = A1 at *
  generalize hq : w.heap.size = g at *
  have HQ := hid hq
  clear hA1 hq
  have c0 : A1.drew.cell? ⟨g, 0, none⟩ = some (.int .u8 p) := (box_cell HM.out 0).trans rfl
  have c1 : A1.drew.cell? ⟨g, 1, none⟩ = some (.int .u8 q) := (box_cell HM.out 1).trans rfl
  have c2 : A1.drew.cell? ⟨g, 2, none⟩ = some (.int .u8 r) := (box_cell HM.out 2).trans rfl
  have hS : A1.drew.cell? ⟨g, 0, none⟩ = some (.int .u8 p) ∧ A1.drew.cell? ⟨g, 1, none⟩ = some (.int .u8 q) ∧ A1.drew.cell? ⟨g, 2, none⟩ = some (.int .u8 r) := ⟨c0, c1, c2⟩
  have HS := hid hS
  have HR1 : Hid (A1.drew.heap[g + 1]? = some (.cells #[.string ⟨#[]⟩, .string ⟨#[]⟩, .string ⟨#[]⟩, .string ⟨#[]⟩, .string ⟨#[]⟩, .string ⟨#[]⟩, .bool false] 49 (0, 0))) := hid HR.out
  have HB1 : Hid (Below g w A1.drew) := hid (by have h := HQ.out; subst h; exact g_drew HB.out)
  clear c0 c1 c2 HM HR HB
  have n1 : ¬ g = g + 1 := by omega
  have n2 : ¬ g + 1 = g := by omega
  go_region_held3 (fun w' => w'.cell? ⟨g, 0, none⟩ = some (.int .u8 p) ∧ w'.cell? ⟨g, 1, none⟩ = some (.int .u8 q) ∧ w'.cell? ⟨g, 2, none⟩ = some (.int .u8 r)) (first | with_reducible assumption | exact ⟨set_7 n1 hS2.1, set_7 n1 hS2.2.1, set_7 n1 hS2.2.2⟩)
    (first | (go_at_call 25; (with_reducible refine Calls.mono (HO.out _) ?_); rintro _ w2 ⟨rfl, hb2⟩; obtain ⟨⟨f0, f1, f2, f3, f4, f5, f6⟩, ⟨d0, d1, d2, d3, d4, d5, d6⟩⟩ := res7 HR1.out hb2; have hS2 := keep3 hb2 HS.out))
  all_goals go_wp2
  all_goals refine bodyPost_ret (v := .agg #[.string t.a, .string t.b, .string t.c, .string t.d, .string t.e, .string t.f, .bool z]) ?_ rfl ?_
  · simp [results, Try.results10, go_sem, *]
  · have h := HQ.out
    subst h
    have hg : w.heap.size ≤ w.heap.size + 1 := Nat.le_succ _
    exact ⟨rfl, g_set (g_set (g_set (g_set (g_set (g_set (g_set (g_trans HB1.out hb2) hg _) hg _) hg _) hg _) hg _) hg _) hg _⟩
end Go.Proofs.Ytfgjeflhhfjgeaa.DT
namespace Go.Proofs.Ytfgjeflhhfjgeaa.DT
open Go.RowKit Go.Deep

def t0 : Tup := ⟨⟨#[100, 111, 99]⟩, ⟨#[97]⟩, ⟨#[118, 105, 101, 119, 101, 114]⟩, ⟨#[117, 115, 101, 114]⟩, ⟨#[120]⟩, ⟨#[]⟩⟩
theorem lr0 : rtup ⟨#[100, 111, 99, 58, 97, 35, 118, 105, 101, 119, 101, 114, 64, 117, 115, 101, 114, 58, 120]⟩ = (t0, 0) := by decide +kernel
def t1 : Tup := ⟨⟨#[100, 111, 99]⟩, ⟨#[97]⟩, ⟨#[118, 105, 101, 119, 101, 114]⟩, ⟨#[103, 114, 111, 117, 112]⟩, ⟨#[103]⟩, ⟨#[109, 101, 109, 98, 101, 114]⟩⟩
theorem lr1 : rtup ⟨#[100, 111, 99, 58, 97, 35, 118, 105, 101, 119, 101, 114, 64, 103, 114, 111, 117, 112, 58, 103, 35, 109, 101, 109, 98, 101, 114]⟩ = (t1, 0) := by decide +kernel
def t2 : Tup := ⟨⟨#[100, 111, 99]⟩, ⟨#[98]⟩, ⟨#[118, 105, 101, 119, 101, 114]⟩, ⟨#[117, 115, 101, 114]⟩, ⟨#[120]⟩, ⟨#[]⟩⟩
theorem lr2 : rtup ⟨#[100, 111, 99, 58, 98, 35, 118, 105, 101, 119, 101, 114, 64, 117, 115, 101, 114, 58, 120]⟩ = (t2, 0) := by decide +kernel
def smallL : List Tup := [t0, t1, t2]
theorem rtparse_x (s : ByteArray) (x : Tup) (w : World) (hs : s.size ≤ 1000) (h : rtup s = (x, 0)) :
    Calls Try.prog 44 #[.string s] w fun r w' => r = .returned (.tuple #[.agg #[.string x.a, .string x.b, .string x.c, .string x.d, .string x.e, .string x.f], .int .i64 0]) ∧ Below w.heap.size w w' := by
  have q := rtparse s w (by unfold maxLen; omega); unfold RTupRet at q; rw [h] at q; exact q.mono fun _ _ h => ⟨h.1, h.2⟩
theorem new_cells1 (w : World) (o : Obj) (x : Tup) (t : TypeId) : ∀ c v, (enc x)[c]? = some v → ((w.alloc o).alloc (.cells #[.string x.a, .string x.b, .string x.c, .string x.d, .string x.e, .string x.f] t)).cell? ⟨w.heap.size + 1, c, none⟩ = some v := fun c v h => by
  have q := new_cells (w.alloc o) x t c v h
  rwa [show (w.alloc o).heap.size = w.heap.size + 1 by simp] at q
set_option maxRecDepth 20000 in
set_option maxHeartbeats 2000000 in
theorem small_any (w : World) : Calls Try.prog 22 #[] w fun e w' => ∃ v, e = .returned v ∧ Own w' w.heap.size v smallL ∧ Below w.heap.size w w' := by
  go_enter Try.func22, Try.ntmps22
  go_wp2
  go_loopw [1, 3] (fun v i wr => ∃ k : Nat, k ≤ 3 ∧ i = .int .i64 k ∧ Own wr (w.heap.size + 1) v (smallL.take k) ∧ Below (w.alloc (.cells #[.string ⟨#[100, 111, 99, 58, 97, 35, 118, 105, 101, 119, 101, 114, 64, 117, 115, 101, 114, 58, 120]⟩, .string ⟨#[100, 111, 99, 58, 97, 35, 118, 105, 101, 119, 101, 114, 64, 103, 114, 111, 117, 112, 58, 103, 35, 109, 101, 109, 98, 101, 114]⟩, .string ⟨#[100, 111, 99, 58, 98, 35, 118, 105, 101, 119, 101, 114, 64, 117, 115, 101, 114, 58, 120]⟩] 9)).heap.size (w.alloc (.cells #[.string ⟨#[100, 111, 99, 58, 97, 35, 118, 105, 101, 119, 101, 114, 64, 117, 115, 101, 114, 58, 120]⟩, .string ⟨#[100, 111, 99, 58, 97, 35, 118, 105, 101, 119, 101, 114, 64, 103, 114, 111, 117, 112, 58, 103, 35, 109, 101, 109, 98, 101, 114]⟩, .string ⟨#[100, 111, 99, 58, 98, 35, 118, 105, 101, 119, 101, 114, 64, 117, 115, 101, 114, 58, 120]⟩] 9)) wr) (fun _ i _ => 3 - (intOf i).toNat)
  case atStart => exact ⟨0, by omega, rfl, Own.nil _ _, g_refl⟩
  case round =>
    obtain ⟨k, hk, rfl, hown, hw⟩ := hrel
    have c0 : wr.cell? ⟨w.heap.size, 0, none⟩ = some (.string ⟨#[100, 111, 99, 58, 97, 35, 118, 105, 101, 119, 101, 114, 64, 117, 115, 101, 114, 58, 120]⟩) := (own_cells hw _ (by simp) _).1.trans (by go_simp)
    have c1 : wr.cell? ⟨w.heap.size, 1, none⟩ = some (.string ⟨#[100, 111, 99, 58, 97, 35, 118, 105, 101, 119, 101, 114, 64, 103, 114, 111, 117, 112, 58, 103, 35, 109, 101, 109, 98, 101, 114]⟩) := (own_cells hw _ (by simp) _).1.trans (by go_simp)
    have c2 : wr.cell? ⟨w.heap.size, 2, none⟩ = some (.string ⟨#[100, 111, 99, 58, 98, 35, 118, 105, 101, 119, 101, 114, 64, 117, 115, 101, 114, 58, 120]⟩) := (own_cells hw _ (by simp) _).1.trans (by go_simp)
    have HO := hid hown; clear hown
    have hzr : w.heap.size + 1 ≤ wr.heap.size := by have := hw.size; simpa using this
    by_cases hlt : k < 3
    · rcases (show k = 0 ∨ k = 1 ∨ k = 2 by omega) with rfl | rfl | rfl <;> clear hk hlt
      · go_wp2_with fail
        refine (rtparse_x ⟨#[100, 111, 99, 58, 97, 35, 118, 105, 101, 119, 101, 114, 64, 117, 115, 101, 114, 58, 120]⟩ t0 _ (by decide) lr0).mono ?_
        rintro r w1 ⟨rfl, hw1⟩
        simp only [t0]
        have hO1 := HO.out.below hw1
        have hz1 := hw1.size
        clear c0 c1 c2
        go_wp2_with (at_builtin; refine wp_app _ _ rfl rfl (w.heap.size + 1) _ (smallL.take 0) (w1.heap.size + 1) 1 t0 rfl rfl ((hO1.below (g_alloc g_refl _)).below (g_alloc g_refl _)) (new_cells1 w1 _ t0 _) (by decide) (by simp; omega) ?_)
        intro v5 w5 hown5 hg5 hd5
        have hsz := (g_trans hw hw1).size
        have hw5 : Below (w.alloc (.cells #[.string ⟨#[100, 111, 99, 58, 97, 35, 118, 105, 101, 119, 101, 114, 64, 117, 115, 101, 114, 58, 120]⟩, .string ⟨#[100, 111, 99, 58, 97, 35, 118, 105, 101, 119, 101, 114, 64, 103, 114, 111, 117, 112, 58, 103, 35, 109, 101, 109, 98, 101, 114]⟩, .string ⟨#[100, 111, 99, 58, 98, 35, 118, 105, 101, 119, 101, 114, 64, 117, 115, 101, 114, 58, 120]⟩] 9)).heap.size (w.alloc (.cells #[.string ⟨#[100, 111, 99, 58, 97, 35, 118, 105, 101, 119, 101, 114, 64, 117, 115, 101, 114, 58, 120]⟩, .string ⟨#[100, 111, 99, 58, 97, 35, 118, 105, 101, 119, 101, 114, 64, 103, 114, 111, 117, 112, 58, 103, 35, 109, 101, 109, 98, 101, 114]⟩, .string ⟨#[100, 111, 99, 58, 98, 35, 118, 105, 101, 119, 101, 114, 64, 117, 115, 101, 114, 58, 120]⟩] 9)) w5 := by
          refine Below.grown (g_alloc (g_alloc (g_trans hw hw1) _) _) hg5 ?_ fun g hg => ?_
          · simp at hsz ⊢; omega
          · have := (hO1.lt g hg).1; simpa using this
        go_wp2
        go_roundw
        case rel => exact ⟨0+1, by omega, by go_num, hown5, hw5⟩
        case measure => simp [intOf]
      · go_wp2_with fail
        refine (rtparse_x ⟨#[100, 111, 99, 58, 97, 35, 118, 105, 101, 119, 101, 114, 64, 103, 114, 111, 117, 112, 58, 103, 35, 109, 101, 109, 98, 101, 114]⟩ t1 _ (by decide) lr1).mono ?_
        rintro r w1 ⟨rfl, hw1⟩
        simp only [t1]
        have hO1 := HO.out.below hw1
        have hz1 := hw1.size
        clear c0 c1 c2
        go_wp2_with (at_builtin; refine wp_app _ _ rfl rfl (w.heap.size + 1) _ (smallL.take 1) (w1.heap.size + 1) 1 t1 rfl rfl ((hO1.below (g_alloc g_refl _)).below (g_alloc g_refl _)) (new_cells1 w1 _ t1 _) (by decide) (by simp; omega) ?_)
        intro v5 w5 hown5 hg5 hd5
        have hsz := (g_trans hw hw1).size
        have hw5 : Below (w.alloc (.cells #[.string ⟨#[100, 111, 99, 58, 97, 35, 118, 105, 101, 119, 101, 114, 64, 117, 115, 101, 114, 58, 120]⟩, .string ⟨#[100, 111, 99, 58, 97, 35, 118, 105, 101, 119, 101, 114, 64, 103, 114, 111, 117, 112, 58, 103, 35, 109, 101, 109, 98, 101, 114]⟩, .string ⟨#[100, 111, 99, 58, 98, 35, 118, 105, 101, 119, 101, 114, 64, 117, 115, 101, 114, 58, 120]⟩] 9)).heap.size (w.alloc (.cells #[.string ⟨#[100, 111, 99, 58, 97, 35, 118, 105, 101, 119, 101, 114, 64, 117, 115, 101, 114, 58, 120]⟩, .string ⟨#[100, 111, 99, 58, 97, 35, 118, 105, 101, 119, 101, 114, 64, 103, 114, 111, 117, 112, 58, 103, 35, 109, 101, 109, 98, 101, 114]⟩, .string ⟨#[100, 111, 99, 58, 98, 35, 118, 105, 101, 119, 101, 114, 64, 117, 115, 101, 114, 58, 120]⟩] 9)) w5 := by
          refine Below.grown (g_alloc (g_alloc (g_trans hw hw1) _) _) hg5 ?_ fun g hg => ?_
          · simp at hsz ⊢; omega
          · have := (hO1.lt g hg).1; simpa using this
        go_wp2
        go_roundw
        case rel => exact ⟨1+1, by omega, by go_num, hown5, hw5⟩
        case measure => simp [intOf]
      · go_wp2_with fail
        refine (rtparse_x ⟨#[100, 111, 99, 58, 98, 35, 118, 105, 101, 119, 101, 114, 64, 117, 115, 101, 114, 58, 120]⟩ t2 _ (by decide) lr2).mono ?_
        rintro r w1 ⟨rfl, hw1⟩
        simp only [t2]
        have hO1 := HO.out.below hw1
        have hz1 := hw1.size
        clear c0 c1 c2
        go_wp2_with (at_builtin; refine wp_app _ _ rfl rfl (w.heap.size + 1) _ (smallL.take 2) (w1.heap.size + 1) 1 t2 rfl rfl ((hO1.below (g_alloc g_refl _)).below (g_alloc g_refl _)) (new_cells1 w1 _ t2 _) (by decide) (by simp; omega) ?_)
        intro v5 w5 hown5 hg5 hd5
        have hsz := (g_trans hw hw1).size
        have hw5 : Below (w.alloc (.cells #[.string ⟨#[100, 111, 99, 58, 97, 35, 118, 105, 101, 119, 101, 114, 64, 117, 115, 101, 114, 58, 120]⟩, .string ⟨#[100, 111, 99, 58, 97, 35, 118, 105, 101, 119, 101, 114, 64, 103, 114, 111, 117, 112, 58, 103, 35, 109, 101, 109, 98, 101, 114]⟩, .string ⟨#[100, 111, 99, 58, 98, 35, 118, 105, 101, 119, 101, 114, 64, 117, 115, 101, 114, 58, 120]⟩] 9)).heap.size (w.alloc (.cells #[.string ⟨#[100, 111, 99, 58, 97, 35, 118, 105, 101, 119, 101, 114, 64, 117, 115, 101, 114, 58, 120]⟩, .string ⟨#[100, 111, 99, 58, 97, 35, 118, 105, 101, 119, 101, 114, 64, 103, 114, 111, 117, 112, 58, 103, 35, 109, 101, 109, 98, 101, 114]⟩, .string ⟨#[100, 111, 99, 58, 98, 35, 118, 105, 101, 119, 101, 114, 64, 117, 115, 101, 114, 58, 120]⟩] 9)) w5 := by
          refine Below.grown (g_alloc (g_alloc (g_trans hw hw1) _) _) hg5 ?_ fun g hg => ?_
          · simp at hsz ⊢; omega
          · have := (hO1.lt g hg).1; simpa using this
        go_wp2
        go_roundw
        case rel => exact ⟨2+1, by omega, by go_num, hown5, hw5⟩
        case measure => simp [intOf]
    · obtain rfl : k = 3 := by omega
      have hO := HO.out
      go_wp2
      go_ret
      exact ⟨_, rfl, hO.mono (Nat.le_succ _), g_trans (g_alloc g_refl _) hw⟩
/-- the set of them, in order; and without the last -/
def sortL : List Tup := [t1, t0, t2]
theorem of_small : ofF [] smallL = (sortL, 0) := by decide +kernel
theorem wth_small : wth sortL t2 true = ([t1, t0], 0) := by decide +kernel
theorem fit0 : ∀ t ∈ smallL, Fits t := fun t h => ok_fits (by
  have : ∀ t ∈ smallL, okT t = true := by decide +kernel
  exact this t h)
theorem ok_sort : ∀ t ∈ sortL, okT t = true := by decide +kernel
theorem fX_par : fpar ⟨#[100, 111, 99, 58, 42, 35, 42]⟩ = (⟨⟨#[100, 111, 99]⟩, ⟨#[]⟩, ⟨#[]⟩, ⟨#[]⟩, ⟨#[]⟩, ⟨#[]⟩, false⟩, 0) := by decide +kernel
theorem fparse_x (s : ByteArray) (a b c d e f : ByteArray) (x : Bool) (n : Int) (w : World) (hs : s.size ≤ maxLen) (h : fpar s = (⟨a, b, c, d, e, f, x⟩, n)) :
    Calls Try.prog 37 #[.string s] w fun r w' => r = .returned (.tuple #[.agg #[.string a, .string b, .string c, .string d, .string e, .string f, .bool x], .int .i64 n]) ∧ Below w.heap.size w w' := by
  have q := fparse s w hs; unfold FParRet at q; rw [h] at q; exact q
set_option maxRecDepth 20000 in
set_option maxHeartbeats 2000000 in
theorem of_nil (w : World) : Calls Try.prog 7 #[.slice none 0 0] w fun e w' => e = .returned (.tuple #[.agg #[.nilFunc, .pointer none], .int .i64 0]) ∧ Below w.heap.size w w' := by
  have hb0 : Below w.heap.size w ((w.alloc (.cells #[.nilFunc, .pointer none] 35 (0, 0))).alloc (.cells #[.nilFunc, .pointer none] 35 (0, 0))) := g_alloc (g_alloc g_refl _) _
  have HB0 := hid hb0
  clear hb0
  go_enter Try.func7, Try.ntmps7
  go_wp2
  go_loopw [11] (fun i wr => i = .int .i64 0 ∧ wr = (w.alloc (.cells #[.nilFunc, .pointer none] 35 (0, 0))).alloc (.cells #[.nilFunc, .pointer none] 35 (0, 0))) (fun _ _ => 0)
  case atStart => exact ⟨rfl, rfl⟩
  case round =>
    obtain ⟨rfl, rfl⟩ := hrel
    go_wp2
    refine bodyPost_ret (v := .tuple #[.agg #[.nilFunc, .pointer none], .int .i64 0]) ?_ rfl ?_
    · simp [results, Try.results7, go_sem]
    · exact ⟨rfl, HB0.out⟩
/-- the cells of the three -/
def SC (w : World) (g : Nat) : Prop := w.cell? ⟨g, 0, none⟩ = some (.string ⟨#[100, 111, 99]⟩) ∧ w.cell? ⟨g, 1, none⟩ = some (.string ⟨#[97]⟩) ∧ w.cell? ⟨g, 2, none⟩ = some (.string ⟨#[118, 105, 101, 119, 101, 114]⟩) ∧ w.cell? ⟨g, 3, none⟩ = some (.string ⟨#[117, 115, 101, 114]⟩) ∧ w.cell? ⟨g, 4, none⟩ = some (.string ⟨#[120]⟩) ∧ w.cell? ⟨g, 5, none⟩ = some (.string ⟨#[]⟩) ∧ w.cell? ⟨g, 6, none⟩ = some (.string ⟨#[100, 111, 99]⟩) ∧ w.cell? ⟨g, 7, none⟩ = some (.string ⟨#[97]⟩) ∧ w.cell? ⟨g, 8, none⟩ = some (.string ⟨#[118, 105, 101, 119, 101, 114]⟩) ∧ w.cell? ⟨g, 9, none⟩ = some (.string ⟨#[103, 114, 111, 117, 112]⟩) ∧ w.cell? ⟨g, 10, none⟩ = some (.string ⟨#[103]⟩) ∧ w.cell? ⟨g, 11, none⟩ = some (.string ⟨#[109, 101, 109, 98, 101, 114]⟩) ∧ w.cell? ⟨g, 12, none⟩ = some (.string ⟨#[100, 111, 99]⟩) ∧ w.cell? ⟨g, 13, none⟩ = some (.string ⟨#[98]⟩) ∧ w.cell? ⟨g, 14, none⟩ = some (.string ⟨#[118, 105, 101, 119, 101, 114]⟩) ∧ w.cell? ⟨g, 15, none⟩ = some (.string ⟨#[117, 115, 101, 114]⟩) ∧ w.cell? ⟨g, 16, none⟩ = some (.string ⟨#[120]⟩) ∧ w.cell? ⟨g, 17, none⟩ = some (.string ⟨#[]⟩)
theorem sm_cells {w : World} {g : Nat} (h : Row w (some ⟨g, 0, none⟩) smallL) : SC w g := by
  obtain ⟨b, o, e, hL⟩ := h (by decide)
  injection e with e
  injection e with e1 e2
  subst e1; subst e2
  have c := fun i (hi : i < 3) j v hv => hL.2 i hi j v hv
  exact ⟨c 0 (by decide) 0 _ rfl, c 0 (by decide) 1 _ rfl, c 0 (by decide) 2 _ rfl, c 0 (by decide) 3 _ rfl, c 0 (by decide) 4 _ rfl, c 0 (by decide) 5 _ rfl, c 1 (by decide) 0 _ rfl, c 1 (by decide) 1 _ rfl, c 1 (by decide) 2 _ rfl, c 1 (by decide) 3 _ rfl, c 1 (by decide) 4 _ rfl, c 1 (by decide) 5 _ rfl, c 2 (by decide) 0 _ rfl, c 2 (by decide) 1 _ rfl, c 2 (by decide) 2 _ rfl, c 2 (by decide) 3 _ rfl, c 2 (by decide) 4 _ rfl, c 2 (by decide) 5 _ rfl⟩
theorem keep18 {a b : World} {p0 p1 p2 p3 p4 p5 p6 p7 p8 p9 p10 p11 p12 p13 p14 p15 p16 p17 o0 o1 o2 o3 o4 o5 o6 o7 o8 o9 o10 o11 o12 o13 o14 o15 o16 o17 : Nat} {x0 x1 x2 x3 x4 x5 x6 x7 x8 x9 x10 x11 x12 x13 x14 x15 x16 x17 : Value} (h : Below a.heap.size a b)
    (s : a.cell? ⟨p0, o0, none⟩ = some x0 ∧ a.cell? ⟨p1, o1, none⟩ = some x1 ∧ a.cell? ⟨p2, o2, none⟩ = some x2 ∧ a.cell? ⟨p3, o3, none⟩ = some x3 ∧ a.cell? ⟨p4, o4, none⟩ = some x4 ∧ a.cell? ⟨p5, o5, none⟩ = some x5 ∧ a.cell? ⟨p6, o6, none⟩ = some x6 ∧ a.cell? ⟨p7, o7, none⟩ = some x7 ∧ a.cell? ⟨p8, o8, none⟩ = some x8 ∧ a.cell? ⟨p9, o9, none⟩ = some x9 ∧ a.cell? ⟨p10, o10, none⟩ = some x10 ∧ a.cell? ⟨p11, o11, none⟩ = some x11 ∧ a.cell? ⟨p12, o12, none⟩ = some x12 ∧ a.cell? ⟨p13, o13, none⟩ = some x13 ∧ a.cell? ⟨p14, o14, none⟩ = some x14 ∧ a.cell? ⟨p15, o15, none⟩ = some x15 ∧ a.cell? ⟨p16, o16, none⟩ = some x16 ∧ a.cell? ⟨p17, o17, none⟩ = some x17) :
    b.cell? ⟨p0, o0, none⟩ = some x0 ∧ b.cell? ⟨p1, o1, none⟩ = some x1 ∧ b.cell? ⟨p2, o2, none⟩ = some x2 ∧ b.cell? ⟨p3, o3, none⟩ = some x3 ∧ b.cell? ⟨p4, o4, none⟩ = some x4 ∧ b.cell? ⟨p5, o5, none⟩ = some x5 ∧ b.cell? ⟨p6, o6, none⟩ = some x6 ∧ b.cell? ⟨p7, o7, none⟩ = some x7 ∧ b.cell? ⟨p8, o8, none⟩ = some x8 ∧ b.cell? ⟨p9, o9, none⟩ = some x9 ∧ b.cell? ⟨p10, o10, none⟩ = some x10 ∧ b.cell? ⟨p11, o11, none⟩ = some x11 ∧ b.cell? ⟨p12, o12, none⟩ = some x12 ∧ b.cell? ⟨p13, o13, none⟩ = some x13 ∧ b.cell? ⟨p14, o14, none⟩ = some x14 ∧ b.cell? ⟨p15, o15, none⟩ = some x15 ∧ b.cell? ⟨p16, o16, none⟩ = some x16 ∧ b.cell? ⟨p17, o17, none⟩ = some x17 :=
  ⟨keep1 h s.1, keep1 h s.2.1, keep1 h s.2.2.1, keep1 h s.2.2.2.1, keep1 h s.2.2.2.2.1, keep1 h s.2.2.2.2.2.1, keep1 h s.2.2.2.2.2.2.1, keep1 h s.2.2.2.2.2.2.2.1, keep1 h s.2.2.2.2.2.2.2.2.1, keep1 h s.2.2.2.2.2.2.2.2.2.1, keep1 h s.2.2.2.2.2.2.2.2.2.2.1, keep1 h s.2.2.2.2.2.2.2.2.2.2.2.1, keep1 h s.2.2.2.2.2.2.2.2.2.2.2.2.1, keep1 h s.2.2.2.2.2.2.2.2.2.2.2.2.2.1, keep1 h s.2.2.2.2.2.2.2.2.2.2.2.2.2.2.1, keep1 h s.2.2.2.2.2.2.2.2.2.2.2.2.2.2.2.1, keep1 h s.2.2.2.2.2.2.2.2.2.2.2.2.2.2.2.2.1, keep1 h s.2.2.2.2.2.2.2.2.2.2.2.2.2.2.2.2.2⟩
theorem keep27 {a b : World} {p0 p1 p2 p3 p4 p5 p6 p7 p8 p9 p10 p11 p12 p13 p14 p15 p16 p17 p18 p19 p20 p21 p22 p23 p24 p25 p26 o0 o1 o2 o3 o4 o5 o6 o7 o8 o9 o10 o11 o12 o13 o14 o15 o16 o17 o18 o19 o20 o21 o22 o23 o24 o25 o26 : Nat} {x0 x1 x2 x3 x4 x5 x6 x7 x8 x9 x10 x11 x12 x13 x14 x15 x16 x17 x18 x19 x20 x21 x22 x23 x24 x25 x26 : Value} (h : Below a.heap.size a b)
    (s : a.cell? ⟨p0, o0, none⟩ = some x0 ∧ a.cell? ⟨p1, o1, none⟩ = some x1 ∧ a.cell? ⟨p2, o2, none⟩ = some x2 ∧ a.cell? ⟨p3, o3, none⟩ = some x3 ∧ a.cell? ⟨p4, o4, none⟩ = some x4 ∧ a.cell? ⟨p5, o5, none⟩ = some x5 ∧ a.cell? ⟨p6, o6, none⟩ = some x6 ∧ a.cell? ⟨p7, o7, none⟩ = some x7 ∧ a.cell? ⟨p8, o8, none⟩ = some x8 ∧ a.cell? ⟨p9, o9, none⟩ = some x9 ∧ a.cell? ⟨p10, o10, none⟩ = some x10 ∧ a.cell? ⟨p11, o11, none⟩ = some x11 ∧ a.cell? ⟨p12, o12, none⟩ = some x12 ∧ a.cell? ⟨p13, o13, none⟩ = some x13 ∧ a.cell? ⟨p14, o14, none⟩ = some x14 ∧ a.cell? ⟨p15, o15, none⟩ = some x15 ∧ a.cell? ⟨p16, o16, none⟩ = some x16 ∧ a.cell? ⟨p17, o17, none⟩ = some x17 ∧ a.cell? ⟨p18, o18, none⟩ = some x18 ∧ a.cell? ⟨p19, o19, none⟩ = some x19 ∧ a.cell? ⟨p20, o20, none⟩ = some x20 ∧ a.cell? ⟨p21, o21, none⟩ = some x21 ∧ a.cell? ⟨p22, o22, none⟩ = some x22 ∧ a.cell? ⟨p23, o23, none⟩ = some x23 ∧ a.cell? ⟨p24, o24, none⟩ = some x24 ∧ a.cell? ⟨p25, o25, none⟩ = some x25 ∧ a.cell? ⟨p26, o26, none⟩ = some x26) :
    b.cell? ⟨p0, o0, none⟩ = some x0 ∧ b.cell? ⟨p1, o1, none⟩ = some x1 ∧ b.cell? ⟨p2, o2, none⟩ = some x2 ∧ b.cell? ⟨p3, o3, none⟩ = some x3 ∧ b.cell? ⟨p4, o4, none⟩ = some x4 ∧ b.cell? ⟨p5, o5, none⟩ = some x5 ∧ b.cell? ⟨p6, o6, none⟩ = some x6 ∧ b.cell? ⟨p7, o7, none⟩ = some x7 ∧ b.cell? ⟨p8, o8, none⟩ = some x8 ∧ b.cell? ⟨p9, o9, none⟩ = some x9 ∧ b.cell? ⟨p10, o10, none⟩ = some x10 ∧ b.cell? ⟨p11, o11, none⟩ = some x11 ∧ b.cell? ⟨p12, o12, none⟩ = some x12 ∧ b.cell? ⟨p13, o13, none⟩ = some x13 ∧ b.cell? ⟨p14, o14, none⟩ = some x14 ∧ b.cell? ⟨p15, o15, none⟩ = some x15 ∧ b.cell? ⟨p16, o16, none⟩ = some x16 ∧ b.cell? ⟨p17, o17, none⟩ = some x17 ∧ b.cell? ⟨p18, o18, none⟩ = some x18 ∧ b.cell? ⟨p19, o19, none⟩ = some x19 ∧ b.cell? ⟨p20, o20, none⟩ = some x20 ∧ b.cell? ⟨p21, o21, none⟩ = some x21 ∧ b.cell? ⟨p22, o22, none⟩ = some x22 ∧ b.cell? ⟨p23, o23, none⟩ = some x23 ∧ b.cell? ⟨p24, o24, none⟩ = some x24 ∧ b.cell? ⟨p25, o25, none⟩ = some x25 ∧ b.cell? ⟨p26, o26, none⟩ = some x26 :=
  ⟨keep1 h s.1, keep1 h s.2.1, keep1 h s.2.2.1, keep1 h s.2.2.2.1, keep1 h s.2.2.2.2.1, keep1 h s.2.2.2.2.2.1, keep1 h s.2.2.2.2.2.2.1, keep1 h s.2.2.2.2.2.2.2.1, keep1 h s.2.2.2.2.2.2.2.2.1, keep1 h s.2.2.2.2.2.2.2.2.2.1, keep1 h s.2.2.2.2.2.2.2.2.2.2.1, keep1 h s.2.2.2.2.2.2.2.2.2.2.2.1, keep1 h s.2.2.2.2.2.2.2.2.2.2.2.2.1, keep1 h s.2.2.2.2.2.2.2.2.2.2.2.2.2.1, keep1 h s.2.2.2.2.2.2.2.2.2.2.2.2.2.2.1, keep1 h s.2.2.2.2.2.2.2.2.2.2.2.2.2.2.2.1, keep1 h s.2.2.2.2.2.2.2.2.2.2.2.2.2.2.2.2.1, keep1 h s.2.2.2.2.2.2.2.2.2.2.2.2.2.2.2.2.2.1, keep1 h s.2.2.2.2.2.2.2.2.2.2.2.2.2.2.2.2.2.2.1, keep1 h s.2.2.2.2.2.2.2.2.2.2.2.2.2.2.2.2.2.2.2.1, keep1 h s.2.2.2.2.2.2.2.2.2.2.2.2.2.2.2.2.2.2.2.2.1, keep1 h s.2.2.2.2.2.2.2.2.2.2.2.2.2.2.2.2.2.2.2.2.2.1, keep1 h s.2.2.2.2.2.2.2.2.2.2.2.2.2.2.2.2.2.2.2.2.2.2.1, keep1 h s.2.2.2.2.2.2.2.2.2.2.2.2.2.2.2.2.2.2.2.2.2.2.2.1, keep1 h s.2.2.2.2.2.2.2.2.2.2.2.2.2.2.2.2.2.2.2.2.2.2.2.2.1, keep1 h s.2.2.2.2.2.2.2.2.2.2.2.2.2.2.2.2.2.2.2.2.2.2.2.2.2.1, keep1 h s.2.2.2.2.2.2.2.2.2.2.2.2.2.2.2.2.2.2.2.2.2.2.2.2.2.2⟩
theorem keep10 {a b : World} {p0 p1 p2 p3 p4 p5 p6 p7 p8 p9 o0 o1 o2 o3 o4 o5 o6 o7 o8 o9 : Nat} {x0 x1 x2 x3 x4 x5 x6 x7 x8 x9 : Value} (h : Below a.heap.size a b)
    (s : a.cell? ⟨p0, o0, none⟩ = some x0 ∧ a.cell? ⟨p1, o1, none⟩ = some x1 ∧ a.cell? ⟨p2, o2, none⟩ = some x2 ∧ a.cell? ⟨p3, o3, none⟩ = some x3 ∧ a.cell? ⟨p4, o4, none⟩ = some x4 ∧ a.cell? ⟨p5, o5, none⟩ = some x5 ∧ a.cell? ⟨p6, o6, none⟩ = some x6 ∧ a.cell? ⟨p7, o7, none⟩ = some x7 ∧ a.cell? ⟨p8, o8, none⟩ = some x8 ∧ a.cell? ⟨p9, o9, none⟩ = some x9) :
    b.cell? ⟨p0, o0, none⟩ = some x0 ∧ b.cell? ⟨p1, o1, none⟩ = some x1 ∧ b.cell? ⟨p2, o2, none⟩ = some x2 ∧ b.cell? ⟨p3, o3, none⟩ = some x3 ∧ b.cell? ⟨p4, o4, none⟩ = some x4 ∧ b.cell? ⟨p5, o5, none⟩ = some x5 ∧ b.cell? ⟨p6, o6, none⟩ = some x6 ∧ b.cell? ⟨p7, o7, none⟩ = some x7 ∧ b.cell? ⟨p8, o8, none⟩ = some x8 ∧ b.cell? ⟨p9, o9, none⟩ = some x9 :=
  ⟨keep1 h s.1, keep1 h s.2.1, keep1 h s.2.2.1, keep1 h s.2.2.2.1, keep1 h s.2.2.2.2.1, keep1 h s.2.2.2.2.2.1, keep1 h s.2.2.2.2.2.2.1, keep1 h s.2.2.2.2.2.2.2.1, keep1 h s.2.2.2.2.2.2.2.2.1, keep1 h s.2.2.2.2.2.2.2.2.2⟩
def LF (w : World) (g b2 b4 : Nat) (T : Tr) : Prop := w.cell? ⟨g, 0, none⟩ = some (.string ⟨#[100, 111, 99]⟩) ∧ w.cell? ⟨g, 1, none⟩ = some (.string ⟨#[97]⟩) ∧ w.cell? ⟨g, 2, none⟩ = some (.string ⟨#[118, 105, 101, 119, 101, 114]⟩) ∧ w.cell? ⟨g, 3, none⟩ = some (.string ⟨#[117, 115, 101, 114]⟩) ∧ w.cell? ⟨g, 4, none⟩ = some (.string ⟨#[120]⟩) ∧ w.cell? ⟨g, 5, none⟩ = some (.string ⟨#[]⟩) ∧ w.cell? ⟨g, 6, none⟩ = some (.string ⟨#[100, 111, 99]⟩) ∧ w.cell? ⟨g, 7, none⟩ = some (.string ⟨#[97]⟩) ∧ w.cell? ⟨g, 8, none⟩ = some (.string ⟨#[118, 105, 101, 119, 101, 114]⟩) ∧ w.cell? ⟨g, 9, none⟩ = some (.string ⟨#[103, 114, 111, 117, 112]⟩) ∧ w.cell? ⟨g, 10, none⟩ = some (.string ⟨#[103]⟩) ∧ w.cell? ⟨g, 11, none⟩ = some (.string ⟨#[109, 101, 109, 98, 101, 114]⟩) ∧ w.cell? ⟨g, 12, none⟩ = some (.string ⟨#[100, 111, 99]⟩) ∧ w.cell? ⟨g, 13, none⟩ = some (.string ⟨#[98]⟩) ∧ w.cell? ⟨g, 14, none⟩ = some (.string ⟨#[118, 105, 101, 119, 101, 114]⟩) ∧ w.cell? ⟨g, 15, none⟩ = some (.string ⟨#[117, 115, 101, 114]⟩) ∧ w.cell? ⟨g, 16, none⟩ = some (.string ⟨#[120]⟩) ∧ w.cell? ⟨g, 17, none⟩ = some (.string ⟨#[]⟩) ∧ w.cell? ⟨b2, 0, none⟩ = some (.func (.func 31) #[] #[]) ∧ w.cell? ⟨b2, 1, none⟩ = some (.pointer T.ad) ∧ w.cell? ⟨b4, 0, none⟩ = some (.string ⟨#[100, 111, 99]⟩) ∧ w.cell? ⟨b4, 1, none⟩ = some (.string ⟨#[]⟩) ∧ w.cell? ⟨b4, 2, none⟩ = some (.string ⟨#[]⟩) ∧ w.cell? ⟨b4, 3, none⟩ = some (.string ⟨#[]⟩) ∧ w.cell? ⟨b4, 4, none⟩ = some (.string ⟨#[]⟩) ∧ w.cell? ⟨b4, 5, none⟩ = some (.string ⟨#[]⟩) ∧ w.cell? ⟨b4, 6, none⟩ = some (.bool false)
theorem of_small_l (g cap : Nat) (w : World) (h : Row w (some ⟨g, 0, none⟩) smallL) :
    Calls Try.prog 7 #[.slice (some ⟨g, 0, none⟩) 3 cap] w (GivesS w (sortL, 0)) := by
  have q := of_l (some ⟨g, 0, none⟩) smallL cap h fit0 (by decide)
  rw [of_small] at q; exact q
theorem fit2 : Fits t2 := ok_fits (by decide +kernel)
theorem with_small {w : World} {T : Tr} (h : MapL w fv T sortL) :
    Calls Try.prog 11 #[.agg #[.func (.func 31) #[] #[], .pointer T.ad], .agg #[.string ⟨#[100, 111, 99]⟩, .string ⟨#[98]⟩, .string ⟨#[118, 105, 101, 119, 101, 114]⟩, .string ⟨#[117, 115, 101, 114]⟩, .string ⟨#[120]⟩, .string ⟨#[]⟩, .bool true]] w fun e w' => ∃ T2 : Tr, e = .returned (.tuple #[.agg #[.func (.func 31) #[] #[], .pointer T2.ad], .int .i64 0]) ∧ MapL w' fv T2 [t1, t0] ∧ Below w.heap.size w w' := by
  have q := with_l t2 true fit2 h (by decide)
  rw [wth_small] at q
  refine Calls.mono (show Calls Try.prog 11 #[.agg #[.func (.func 31) #[] #[], .pointer T.ad], .agg #[.string ⟨#[100, 111, 99]⟩, .string ⟨#[98]⟩, .string ⟨#[118, 105, 101, 119, 101, 114]⟩, .string ⟨#[117, 115, 101, 114]⟩, .string ⟨#[120]⟩, .string ⟨#[]⟩, .bool true]] w _ from q) ?_
  rintro _ _ ⟨ov, T2, rfl, hL, hb⟩
  obtain rfl := hL.full (by decide)
  exact ⟨T2, rfl, hL, hb⟩
theorem with_zero (T : Tr) (w : World) :
    Calls Try.prog 11 #[.agg #[.func (.func 31) #[] #[], .pointer T.ad], .agg #[.string ⟨#[]⟩, .string ⟨#[]⟩, .string ⟨#[]⟩, .string ⟨#[]⟩, .string ⟨#[]⟩, .string ⟨#[]⟩, .bool false]] w fun e w' => e = .returned (.tuple #[.agg #[.nilFunc, .pointer none], .int .i64 6]) ∧ Below w.heap.size w w' :=
  with_bad0 (T := T) ⟨⟨#[]⟩, ⟨#[]⟩, ⟨#[]⟩, ⟨#[]⟩, ⟨#[]⟩, ⟨#[]⟩⟩ ⟨Nat.zero_le _, Nat.zero_le _, Nat.zero_le _, Nat.zero_le _, Nat.zero_le _, Nat.zero_le _⟩ false (by decide +kernel)
theorem lv_len {w : World} {T : Tr} (h : MapL w fv T sortL) :
    Calls Try.prog 23 #[.agg #[.func (.func 31) #[] #[], .pointer T.ad]] w fun e w' => e = .returned (.int .i64 3) ∧ Below w.heap.size w w' := len_l h
theorem lv_list {w : World} {T : Tr} (h : MapL w fv T sortL) :
    Calls Try.prog 18 #[.agg #[.func (.func 31) #[] #[], .pointer T.ad]] w fun e w' => ∃ A, e = .returned (.slice A 3 3) ∧ Row w' A sortL ∧ Below w.heap.size w w' := list_r h (by decide)
theorem lv_same (A C : Option Addr) (c d : Nat) (w : World) (h : Row w A sortL) (k : Row w C sortL) :
    Calls Try.prog 15 #[.slice A 3 c, .slice C 3 d] w fun e w' => e = .returned (.int .i64 1) ∧ Below w.heap.size w w' := rsame_f A C sortL sortL c d w 3 1 h k rfl rfl (by decide) (by decide +kernel)
theorem lv_set {w : World} {T : Tr} (h : MapL w fv T sortL) : SetL w fv T sortL := ⟨h, ok_sort, by decide⟩
theorem lv_goal {w : World} {T : Tr} (h : MapL w fv T sortL) :
    Calls Try.prog 19 #[.agg #[.func (.func 31) #[] #[], .pointer T.ad], .agg #[.string ⟨#[100, 111, 99]⟩, .string ⟨#[97]⟩, .string ⟨#[118, 105, 101, 119, 101, 114]⟩]] w fun e w' => ∃ A, e = .returned (.slice A 2 2) ∧ Below w.heap.size w w' := by
  refine (goal_l ⟨#[100, 111, 99]⟩ ⟨#[97]⟩ ⟨#[118, 105, 101, 119, 101, 114]⟩ (lv_set h) (by decide) (by decide) (by decide)).mono ?_
  rintro _ _ ⟨A, rfl, -, hb⟩
  have e : (ofG ⟨#[100, 111, 99]⟩ ⟨#[97]⟩ ⟨#[118, 105, 101, 119, 101, 114]⟩ sortL).length = 2 := by decide +kernel
  exact ⟨A, by rw [e], hb⟩
theorem lv_sub {w : World} {T : Tr} (h : MapL w fv T sortL) :
    Calls Try.prog 20 #[.agg #[.func (.func 31) #[] #[], .pointer T.ad], .agg #[.string ⟨#[117, 115, 101, 114]⟩, .string ⟨#[120]⟩, .string ⟨#[]⟩]] w fun e w' => ∃ A, e = .returned (.slice A 2 2) ∧ Below w.heap.size w w' := by
  refine (subject_l ⟨#[117, 115, 101, 114]⟩ ⟨#[120]⟩ ⟨#[]⟩ (lv_set h) (by decide) (by decide) (by decide)).mono ?_
  rintro _ _ ⟨A, rfl, -, hb⟩
  have e : (ofU ⟨#[117, 115, 101, 114]⟩ ⟨#[120]⟩ ⟨#[]⟩ sortL).length = 2 := by decide +kernel
  exact ⟨A, by rw [e], hb⟩
theorem lv_match {w : World} {T : Tr} (h : MapL w fv T sortL) :
    Calls Try.prog 21 #[.agg #[.func (.func 31) #[] #[], .pointer T.ad], .agg #[.string ⟨#[100, 111, 99]⟩, .string ⟨#[]⟩, .string ⟨#[]⟩, .string ⟨#[]⟩, .string ⟨#[]⟩, .string ⟨#[]⟩, .bool false]] w fun e w' => ∃ A, e = .returned (.slice A 3 3) ∧ Below w.heap.size w w' := by
  refine (match_l ⟨⟨#[100, 111, 99]⟩, ⟨#[]⟩, ⟨#[]⟩, ⟨#[]⟩, ⟨#[]⟩, ⟨#[]⟩, false⟩ (lv_set h) ⟨by decide, by decide, by decide, by decide, by decide, by decide⟩).mono ?_
  rintro _ _ ⟨A, rfl, -, hb⟩
  have e : (mtc ⟨⟨#[100, 111, 99]⟩, ⟨#[]⟩, ⟨#[]⟩, ⟨#[]⟩, ⟨#[]⟩, ⟨#[]⟩, false⟩ sortL).length = 3 := by decide +kernel
  exact ⟨A, by rw [e], hb⟩
theorem lv_goals {w : World} {T : Tr} (h : MapL w fv T [t1, t0]) :
    Calls Try.prog 24 #[.agg #[.func (.func 31) #[] #[], .pointer T.ad]] w fun e w' => ∃ A, e = .returned (.slice A 1 1) ∧ RowG w' A [glT t0] ∧ Below w.heap.size w w' := by
  have q := goals_l h (by decide)
  have e : gls [t1, t0] = [glT t0] := by decide +kernel
  rw [e] at q; exact q
theorem lv_len2 {w : World} {T : Tr} (h : MapL w fv T [t1, t0]) :
    Calls Try.prog 23 #[.agg #[.func (.func 31) #[] #[], .pointer T.ad]] w fun e w' => e = .returned (.int .i64 2) ∧ Below w.heap.size w w' := len_l h
theorem lv_len0 (w : World) :
    Calls Try.prog 23 #[.agg #[.nilFunc, .pointer none]] w fun e w' => e = .returned (.int .i64 0) ∧ Below w.heap.size w w' := len_n (MapL.zero w)
theorem row_sort (w : World) : Row (w.alloc (.cells #[.string ⟨#[100, 111, 99]⟩, .string ⟨#[97]⟩, .string ⟨#[118, 105, 101, 119, 101, 114]⟩, .string ⟨#[103, 114, 111, 117, 112]⟩, .string ⟨#[103]⟩, .string ⟨#[109, 101, 109, 98, 101, 114]⟩, .string ⟨#[100, 111, 99]⟩, .string ⟨#[97]⟩, .string ⟨#[118, 105, 101, 119, 101, 114]⟩, .string ⟨#[117, 115, 101, 114]⟩, .string ⟨#[120]⟩, .string ⟨#[]⟩, .string ⟨#[100, 111, 99]⟩, .string ⟨#[98]⟩, .string ⟨#[118, 105, 101, 119, 101, 114]⟩, .string ⟨#[117, 115, 101, 114]⟩, .string ⟨#[120]⟩, .string ⟨#[]⟩] 47 (0, 0))) (some ⟨w.heap.size, 0, none⟩) sortL := fun _ => by
  have n := new_at w (.cells #[.string ⟨#[100, 111, 99]⟩, .string ⟨#[97]⟩, .string ⟨#[118, 105, 101, 119, 101, 114]⟩, .string ⟨#[103, 114, 111, 117, 112]⟩, .string ⟨#[103]⟩, .string ⟨#[109, 101, 109, 98, 101, 114]⟩, .string ⟨#[100, 111, 99]⟩, .string ⟨#[97]⟩, .string ⟨#[118, 105, 101, 119, 101, 114]⟩, .string ⟨#[117, 115, 101, 114]⟩, .string ⟨#[120]⟩, .string ⟨#[]⟩, .string ⟨#[100, 111, 99]⟩, .string ⟨#[98]⟩, .string ⟨#[118, 105, 101, 119, 101, 114]⟩, .string ⟨#[117, 115, 101, 114]⟩, .string ⟨#[120]⟩, .string ⟨#[]⟩] 47 (0, 0))
  have cc := fun j => box_cell n j
  refine ⟨w.heap.size, 0, rfl, by simp, fun i hi c v hv => ?_⟩
  have hc := enc_lt hv
  rw [cc, ← hv, Nat.zero_add]
  have hi3 : i < 3 := hi
  match i, hi3, c, hc with
  | 0, _, 0, _ => rfl
  | 0, _, 1, _ => rfl
  | 0, _, 2, _ => rfl
  | 0, _, 3, _ => rfl
  | 0, _, 4, _ => rfl
  | 0, _, 5, _ => rfl
  | 1, _, 0, _ => rfl
  | 1, _, 1, _ => rfl
  | 1, _, 2, _ => rfl
  | 1, _, 3, _ => rfl
  | 1, _, 4, _ => rfl
  | 1, _, 5, _ => rfl
  | 2, _, 0, _ => rfl
  | 2, _, 1, _ => rfl
  | 2, _, 2, _ => rfl
  | 2, _, 3, _ => rfl
  | 2, _, 4, _ => rfl
  | 2, _, 5, _ => rfl
set_option maxRecDepth 20000 in
set_option maxHeartbeats 4000000 in
theorem lives_any (w : World) : Calls Try.prog 16 #[] w fun e w' => e = .returned (.bool true) ∧ Below w.heap.size w w' := by
  go_enter Try.func16, Try.ntmps16
  go_wp2_with fail
  refine (small_any _).mono ?_
  rintro _ w1 ⟨v, rfl, hown, hb1⟩
  rcases hown.form with ⟨-, hl⟩ | ⟨g, cap, rfl, hcap, hR⟩
  · cases hl
  have HR := hid hR
  have HC := hid (sm_cells hR)
  have HB1 := hid hb1
  clear hown hR hb1 hcap
  simp only [show smallL.length = 3 from rfl]
  go_wp2_with fail
  refine (of_small_l g cap _ HR.out).mono ?_
  rintro _ w2 ⟨ov, T, rfl, hL, hb2⟩
  obtain rfl := hL.full (by decide)
  simp only [fv]
  have HL2 := hid hL
  have HC2 := hid (keep18 hb2 HC.out)
  have HB2 := hid (g_trans HB1.out hb2)
  clear hL hb2 HC HB1 HR
  go_wp2_with fail
  refine (fparse_x _ _ _ _ _ _ _ _ _ _ (by decide) fX_par).mono ?_
  rintro _ w3 ⟨rfl, hb3⟩
  have hx3 := keep2 hb3 (box2p w2 (.func (.func 31) #[] #[]) (.pointer T.ad) 35)
  have hA3 := g_trans (g_alloc (g_refl (a := w2)) (.cells #[.func (.func 31) #[] #[], .pointer T.ad] 35 (0, 0))) hb3
  have HC3 := hid (keep18 hA3 HC2.out)
  have HL3 := hid (HL2.out.below hA3)
  have HB3 := hid (g_trans HB2.out hA3)
  generalize w2.heap.size = b2 at *
  have HX3 := hid hx3
  clear hx3 hb3 hA3 HC2 HL2 HB2
  go_wp2_with fail
  have hA4 := g_alloc (g_refl (a := w3)) (.cells #[.string ⟨#[100, 111, 99]⟩, .string ⟨#[]⟩, .string ⟨#[]⟩, .string ⟨#[]⟩, .string ⟨#[]⟩, .string ⟨#[]⟩, .bool false] 64 (0, 0))
  have HC4 := hid (keep18 hA4 HC3.out)
  have HX4 := hid (keep2 hA4 HX3.out)
  have HL4 := hid (HL3.out.below hA4)
  have HB4 := hid (g_trans HB3.out hA4)
  have h7 := new_at w3 (.cells #[.string ⟨#[100, 111, 99]⟩, .string ⟨#[]⟩, .string ⟨#[]⟩, .string ⟨#[]⟩, .string ⟨#[]⟩, .string ⟨#[]⟩, .bool false] 64 (0, 0))
  have HF4 := hid h7
  generalize hW4 : w3.alloc (.cells #[.string ⟨#[100, 111, 99]⟩, .string ⟨#[]⟩, .string ⟨#[]⟩, .string ⟨#[]⟩, .string ⟨#[]⟩, .string ⟨#[]⟩, .bool false] 64 (0, 0)) = W4 at *
  generalize w3.heap.size = b4 at *
  clear hW4 hA4 h7 HC3 HX3 HL3 HB3
  obtain ⟨-, -, -, -, -, -, -, -, -, -, -, -, c12, c13, c14, c15, c16, c17⟩ := HC4.out
  have hS : W4.drew.cell? ⟨b2, 0, none⟩ = some (.func (.func 31) #[] #[]) ∧ W4.drew.cell? ⟨b2, 1, none⟩ = some (.pointer T.ad) ∧ W4.drew.cell? ⟨g, 12, none⟩ = some (.string ⟨#[100, 111, 99]⟩) ∧ W4.drew.cell? ⟨g, 13, none⟩ = some (.string ⟨#[98]⟩) ∧ W4.drew.cell? ⟨g, 14, none⟩ = some (.string ⟨#[118, 105, 101, 119, 101, 114]⟩) ∧ W4.drew.cell? ⟨g, 15, none⟩ = some (.string ⟨#[117, 115, 101, 114]⟩) ∧ W4.drew.cell? ⟨g, 16, none⟩ = some (.string ⟨#[120]⟩) ∧ W4.drew.cell? ⟨g, 17, none⟩ = some (.string ⟨#[]⟩) := ⟨HX4.out.1, HX4.out.2, c12, c13, c14, c15, c16, c17⟩
  have HS4 := hid hS
  have HLD : Hid (MapL W4.drew fv T sortL) := hid (HL4.out.below (g_drew g_refl))
  clear c12 c13 c14 c15 c16 c17
  go_cut [6, 7] (fun s6 s7 wx => ∃ (b6 : Nat) (T2 : Tr), s6 = .pointer (some ⟨b6, 0, none⟩) ∧ s7 = .int .i64 0 ∧ (wx.cell? ⟨b6, 0, none⟩ = some (.func (.func 31) #[] #[]) ∧ wx.cell? ⟨b6, 1, none⟩ = some (.pointer T2.ad)) ∧ MapL wx fv T2 [t1, t0] ∧ Below W4.heap.size W4 wx)
  case first =>
    go_region_held3 (fun w' => w'.cell? ⟨b2, 0, none⟩ = some (.func (.func 31) #[] #[]) ∧ w'.cell? ⟨b2, 1, none⟩ = some (.pointer T.ad) ∧ w'.cell? ⟨g, 12, none⟩ = some (.string ⟨#[100, 111, 99]⟩) ∧ w'.cell? ⟨g, 13, none⟩ = some (.string ⟨#[98]⟩) ∧ w'.cell? ⟨g, 14, none⟩ = some (.string ⟨#[118, 105, 101, 119, 101, 114]⟩) ∧ w'.cell? ⟨g, 15, none⟩ = some (.string ⟨#[117, 115, 101, 114]⟩) ∧ w'.cell? ⟨g, 16, none⟩ = some (.string ⟨#[120]⟩) ∧ w'.cell? ⟨g, 17, none⟩ = some (.string ⟨#[]⟩)) (first | with_reducible assumption | exact keep8 (g_alloc g_refl _) (by with_reducible assumption) | exact keep8 (g_set (g_set hB5 (Nat.le_refl _) _) (Nat.le_refl _) _) HS4.out | exact keep8 (g_alloc hB5 _) HS4.out | exact keep8 hB5 HS4.out)
      (first | (go_at_call 11; (with_reducible refine Calls.mono (with_small HLD.out) ?_); rintro _ w5 ⟨T2, rfl, hL5, hb5⟩; have hB5 := hb5) | (go_at_call 11; (with_reducible refine Calls.mono (with_small (HLD.out.below (g_alloc g_refl _))) ?_); rintro _ w5 ⟨T2, rfl, hL5, hb5⟩; have hB5 := g_trans (g_alloc (g_refl (a := W4.drew)) _) hb5; obtain ⟨r0, r1, r2, f0, f1⟩ := res2 (show (W4.drew.alloc (.cells #[.nilFunc, .pointer none] 35 (0, 0))).heap[W4.heap.size]? = some (.cells #[.nilFunc, .pointer none] 35 (0, 0)) from new_at W4.drew _) hb5))
    all_goals
      go_wp2_with fail
      go_meet
      first
      | exact ⟨w5.heap.size, T2, rfl, rfl, box2p w5 _ _ _, hL5.below (g_alloc g_refl _), g_alloc (g_trans (g_drew g_refl) hB5) _⟩
      | exact ⟨W4.heap.size, T2, rfl, rfl, ⟨(box_cell (set2_heap r0 _ _) 0).trans rfl, (box_cell (set2_heap r0 _ _) 1).trans rfl⟩, hL5.bod (set_two r0 _ _) (by decide), g_set (g_set (g_trans (g_drew g_refl) hB5) (Nat.le_refl _) _) (Nat.le_refl _) _⟩
  case rest =>
    obtain ⟨b6, T2, rfl, rfl, hx6, hL6, hB6⟩ := hcut
    have HX6 := hid hx6
    have HL6 := hid hL6
    have HC6 := hid (keep18 hB6 HC4.out)
    have HXS6 := hid (keep2 hB6 HX4.out)
    have HLS6 := hid (HL4.out.below hB6)
    have HF6 := hid ((hB6.block _ (Array.getElem?_eq_some_iff.1 HF4.out).1).trans HF4.out)
    have HB6 := hid (g_trans HB4.out hB6)
    clear hx6 hL6 hB6 HC4 HX4 HL4 HF4 HB4 HS4 HLD hS
    obtain ⟨k0, k1⟩ := HXS6.out
    go_wp2_with fail
    refine (with_zero T _).mono ?_
    rintro _ w7 ⟨rfl, hb7⟩
    clear k0 k1
    go_wp2_with fail
    refine (of_nil _).mono ?_
    rintro _ w8 ⟨rfl, hb8⟩
    have hA := g_alloc (g_trans (g_alloc hb7 (.cells #[.nilFunc, .pointer none] 35 (0, 0))) hb8) (.cells #[.nilFunc, .pointer none] 35 (0, 0))
    have hx10 := box2p w8 .nilFunc (.pointer none) 35
    have HX9 := hid (keep2 hA HX6.out)
    have HL9 := hid (HL6.out.below hA)
    have HC9 := hid (keep18 hA HC6.out)
    have HXS9 := hid (keep2 hA HXS6.out)
    have HLS9 := hid (HLS6.out.below hA)
    have hf9 := (hA.block _ (Array.getElem?_eq_some_iff.1 HF6.out).1).trans HF6.out
    have HB9 := hid (g_trans HB6.out hA)
    have HX10 := hid hx10
    have cf := fun j => box_cell hf9 j
    go_upto_region 7 with fail
    generalize hW9 : w8.alloc (.cells #[.nilFunc, .pointer none] 35 (0, 0)) = W9 at *
    generalize w8.heap.size = b10 at *
    have hS : W9.drew.cell? ⟨b2, 0, none⟩ = some (.func (.func 31) #[] #[]) ∧ W9.drew.cell? ⟨b2, 1, none⟩ = some (.pointer T.ad) ∧ W9.drew.cell? ⟨g, 0, none⟩ = some (.string ⟨#[100, 111, 99]⟩) ∧ W9.drew.cell? ⟨g, 1, none⟩ = some (.string ⟨#[97]⟩) ∧ W9.drew.cell? ⟨g, 2, none⟩ = some (.string ⟨#[118, 105, 101, 119, 101, 114]⟩) ∧ W9.drew.cell? ⟨g, 3, none⟩ = some (.string ⟨#[117, 115, 101, 114]⟩) ∧ W9.drew.cell? ⟨g, 4, none⟩ = some (.string ⟨#[120]⟩) ∧ W9.drew.cell? ⟨g, 5, none⟩ = some (.string ⟨#[]⟩) ∧ W9.drew.cell? ⟨g, 6, none⟩ = some (.string ⟨#[100, 111, 99]⟩) ∧ W9.drew.cell? ⟨g, 7, none⟩ = some (.string ⟨#[97]⟩) ∧ W9.drew.cell? ⟨g, 8, none⟩ = some (.string ⟨#[118, 105, 101, 119, 101, 114]⟩) ∧ W9.drew.cell? ⟨g, 9, none⟩ = some (.string ⟨#[103, 114, 111, 117, 112]⟩) ∧ W9.drew.cell? ⟨g, 10, none⟩ = some (.string ⟨#[103]⟩) ∧ W9.drew.cell? ⟨g, 11, none⟩ = some (.string ⟨#[109, 101, 109, 98, 101, 114]⟩) ∧ W9.drew.cell? ⟨g, 12, none⟩ = some (.string ⟨#[100, 111, 99]⟩) ∧ W9.drew.cell? ⟨g, 13, none⟩ = some (.string ⟨#[98]⟩) ∧ W9.drew.cell? ⟨g, 14, none⟩ = some (.string ⟨#[118, 105, 101, 119, 101, 114]⟩) ∧ W9.drew.cell? ⟨g, 15, none⟩ = some (.string ⟨#[117, 115, 101, 114]⟩) ∧ W9.drew.cell? ⟨g, 16, none⟩ = some (.string ⟨#[120]⟩) ∧ W9.drew.cell? ⟨g, 17, none⟩ = some (.string ⟨#[]⟩) ∧ W9.drew.cell? ⟨b4, 0, none⟩ = some (.string ⟨#[100, 111, 99]⟩) ∧ W9.drew.cell? ⟨b4, 1, none⟩ = some (.string ⟨#[]⟩) ∧ W9.drew.cell? ⟨b4, 2, none⟩ = some (.string ⟨#[]⟩) ∧ W9.drew.cell? ⟨b4, 3, none⟩ = some (.string ⟨#[]⟩) ∧ W9.drew.cell? ⟨b4, 4, none⟩ = some (.string ⟨#[]⟩) ∧ W9.drew.cell? ⟨b4, 5, none⟩ = some (.string ⟨#[]⟩) ∧ W9.drew.cell? ⟨b4, 6, none⟩ = some (.bool false) := by
      obtain ⟨x0, x1⟩ := HXS9.out
      obtain ⟨c0, c1, c2, c3, c4, c5, c6, c7, c8, c9, c10, c11, c12, c13, c14, c15, c16, c17⟩ := HC9.out
      exact ⟨x0, x1, c0, c1, c2, c3, c4, c5, c6, c7, c8, c9, c10, c11, c12, c13, c14, c15, c16, c17, (cf 0).trans rfl, (cf 1).trans rfl, (cf 2).trans rfl, (cf 3).trans rfl, (cf 4).trans rfl, (cf 5).trans rfl, (cf 6).trans rfl⟩
    have HLD : Hid (MapL W9.drew fv T sortL) := hid (HLS9.out.below (g_drew g_refl))
    clear hW9 cf hf9 hA hb7 hb8 hx10 HX6 HL6 HC6 HXS6 HLS6 HF6 HB6
    go_cut [98] (fun s wx => s = .bool false ∧ Below W9.heap.size W9 wx)
    case first =>
      go_region_held3 (fun w' => w'.cell? ⟨b2, 0, none⟩ = some (.func (.func 31) #[] #[]) ∧ w'.cell? ⟨b2, 1, none⟩ = some (.pointer T.ad) ∧ w'.cell? ⟨g, 0, none⟩ = some (.string ⟨#[100, 111, 99]⟩) ∧ w'.cell? ⟨g, 1, none⟩ = some (.string ⟨#[97]⟩) ∧ w'.cell? ⟨g, 2, none⟩ = some (.string ⟨#[118, 105, 101, 119, 101, 114]⟩) ∧ w'.cell? ⟨g, 3, none⟩ = some (.string ⟨#[117, 115, 101, 114]⟩) ∧ w'.cell? ⟨g, 4, none⟩ = some (.string ⟨#[120]⟩) ∧ w'.cell? ⟨g, 5, none⟩ = some (.string ⟨#[]⟩) ∧ w'.cell? ⟨g, 6, none⟩ = some (.string ⟨#[100, 111, 99]⟩) ∧ w'.cell? ⟨g, 7, none⟩ = some (.string ⟨#[97]⟩) ∧ w'.cell? ⟨g, 8, none⟩ = some (.string ⟨#[118, 105, 101, 119, 101, 114]⟩) ∧ w'.cell? ⟨g, 9, none⟩ = some (.string ⟨#[103, 114, 111, 117, 112]⟩) ∧ w'.cell? ⟨g, 10, none⟩ = some (.string ⟨#[103]⟩) ∧ w'.cell? ⟨g, 11, none⟩ = some (.string ⟨#[109, 101, 109, 98, 101, 114]⟩) ∧ w'.cell? ⟨g, 12, none⟩ = some (.string ⟨#[100, 111, 99]⟩) ∧ w'.cell? ⟨g, 13, none⟩ = some (.string ⟨#[98]⟩) ∧ w'.cell? ⟨g, 14, none⟩ = some (.string ⟨#[118, 105, 101, 119, 101, 114]⟩) ∧ w'.cell? ⟨g, 15, none⟩ = some (.string ⟨#[117, 115, 101, 114]⟩) ∧ w'.cell? ⟨g, 16, none⟩ = some (.string ⟨#[120]⟩) ∧ w'.cell? ⟨g, 17, none⟩ = some (.string ⟨#[]⟩) ∧ w'.cell? ⟨b4, 0, none⟩ = some (.string ⟨#[100, 111, 99]⟩) ∧ w'.cell? ⟨b4, 1, none⟩ = some (.string ⟨#[]⟩) ∧ w'.cell? ⟨b4, 2, none⟩ = some (.string ⟨#[]⟩) ∧ w'.cell? ⟨b4, 3, none⟩ = some (.string ⟨#[]⟩) ∧ w'.cell? ⟨b4, 4, none⟩ = some (.string ⟨#[]⟩) ∧ w'.cell? ⟨b4, 5, none⟩ = some (.string ⟨#[]⟩) ∧ w'.cell? ⟨b4, 6, none⟩ = some (.bool false)) (first | with_reducible assumption | exact keep27 (by with_reducible assumption) (by with_reducible assumption) | exact keep27 (g_alloc g_refl _) (by with_reducible assumption))
        (first
        | (go_at_call 23; (with_reducible refine Calls.mono (lv_len HLD.out) ?_); rintro _ x1 ⟨rfl, hc1⟩; have hM1 := HLD.out.below hc1)
        | (go_at_call 18; (with_reducible refine Calls.mono (lv_list hM1) ?_); rintro _ x2 ⟨A2, rfl, hR2, hc2⟩; have hM2 := hM1.below hc2; have hB2 := g_trans hc1 hc2)
        | (go_at_call 18; (with_reducible refine Calls.mono (lv_list (hM1.below (g_alloc g_refl _))) ?_); rintro _ x2 ⟨A2, rfl, hR2, hc2⟩; have hL2 := (row_sort x1).below hc2; have hM2 := (hM1.below (g_alloc g_refl (.cells #[.string ⟨#[100, 111, 99]⟩, .string ⟨#[97]⟩, .string ⟨#[118, 105, 101, 119, 101, 114]⟩, .string ⟨#[103, 114, 111, 117, 112]⟩, .string ⟨#[103]⟩, .string ⟨#[109, 101, 109, 98, 101, 114]⟩, .string ⟨#[100, 111, 99]⟩, .string ⟨#[97]⟩, .string ⟨#[118, 105, 101, 119, 101, 114]⟩, .string ⟨#[117, 115, 101, 114]⟩, .string ⟨#[120]⟩, .string ⟨#[]⟩, .string ⟨#[100, 111, 99]⟩, .string ⟨#[98]⟩, .string ⟨#[118, 105, 101, 119, 101, 114]⟩, .string ⟨#[117, 115, 101, 114]⟩, .string ⟨#[120]⟩, .string ⟨#[]⟩] 47 (0, 0)))).below hc2; have hB2 := g_trans (g_alloc hc1 (.cells #[.string ⟨#[100, 111, 99]⟩, .string ⟨#[97]⟩, .string ⟨#[118, 105, 101, 119, 101, 114]⟩, .string ⟨#[103, 114, 111, 117, 112]⟩, .string ⟨#[103]⟩, .string ⟨#[109, 101, 109, 98, 101, 114]⟩, .string ⟨#[100, 111, 99]⟩, .string ⟨#[97]⟩, .string ⟨#[118, 105, 101, 119, 101, 114]⟩, .string ⟨#[117, 115, 101, 114]⟩, .string ⟨#[120]⟩, .string ⟨#[]⟩, .string ⟨#[100, 111, 99]⟩, .string ⟨#[98]⟩, .string ⟨#[118, 105, 101, 119, 101, 114]⟩, .string ⟨#[117, 115, 101, 114]⟩, .string ⟨#[120]⟩, .string ⟨#[]⟩] 47 (0, 0))) hc2)
        | (go_at_call 15; (with_reducible refine Calls.mono (lv_same _ _ _ _ _ (hR2.below (g_alloc g_refl _)) (row_sort _)) ?_); rintro _ x3 ⟨rfl, hc3⟩; have hM3 := (hM2.below (g_alloc g_refl (.cells #[.string ⟨#[100, 111, 99]⟩, .string ⟨#[97]⟩, .string ⟨#[118, 105, 101, 119, 101, 114]⟩, .string ⟨#[103, 114, 111, 117, 112]⟩, .string ⟨#[103]⟩, .string ⟨#[109, 101, 109, 98, 101, 114]⟩, .string ⟨#[100, 111, 99]⟩, .string ⟨#[97]⟩, .string ⟨#[118, 105, 101, 119, 101, 114]⟩, .string ⟨#[117, 115, 101, 114]⟩, .string ⟨#[120]⟩, .string ⟨#[]⟩, .string ⟨#[100, 111, 99]⟩, .string ⟨#[98]⟩, .string ⟨#[118, 105, 101, 119, 101, 114]⟩, .string ⟨#[117, 115, 101, 114]⟩, .string ⟨#[120]⟩, .string ⟨#[]⟩] 47 (0, 0)))).below hc3; have hB3 := g_trans (g_alloc hB2 (.cells #[.string ⟨#[100, 111, 99]⟩, .string ⟨#[97]⟩, .string ⟨#[118, 105, 101, 119, 101, 114]⟩, .string ⟨#[103, 114, 111, 117, 112]⟩, .string ⟨#[103]⟩, .string ⟨#[109, 101, 109, 98, 101, 114]⟩, .string ⟨#[100, 111, 99]⟩, .string ⟨#[97]⟩, .string ⟨#[118, 105, 101, 119, 101, 114]⟩, .string ⟨#[117, 115, 101, 114]⟩, .string ⟨#[120]⟩, .string ⟨#[]⟩, .string ⟨#[100, 111, 99]⟩, .string ⟨#[98]⟩, .string ⟨#[118, 105, 101, 119, 101, 114]⟩, .string ⟨#[117, 115, 101, 114]⟩, .string ⟨#[120]⟩, .string ⟨#[]⟩] 47 (0, 0))) hc3)
        | (go_at_call 15; (with_reducible refine Calls.mono (lv_same _ _ _ _ _ hR2 hL2) ?_); rintro _ x3 ⟨rfl, hc3⟩; have hM3 := hM2.below hc3; have hB3 := g_trans hB2 hc3)
        | (go_at_call 19; (with_reducible refine Calls.mono (lv_goal hM3) ?_); rintro _ x4 ⟨A4, rfl, hc4⟩; have hM4 := hM3.below hc4)
        | (go_at_call 20; (with_reducible refine Calls.mono (lv_sub hM4) ?_); rintro _ x5 ⟨A5, rfl, hc5⟩; have hM5 := hM4.below hc5)
        | (go_at_call 21; (with_reducible refine Calls.mono (lv_match hM5) ?_); rintro _ x6 ⟨A6, rfl, hc6⟩))
      all_goals
        go_wp2_with fail
        go_meet
        exact ⟨rfl, g_trans (g_trans (g_trans (g_trans (g_drew g_refl) hB3) hc4) hc5) hc6⟩
    case rest =>
      obtain ⟨rfl, hB⟩ := hcut
      have HXA := hid (keep2 hB HX9.out)
      have HLA := hid (HL9.out.below hB)
      have HCA := hid (keep18 hB HC9.out)
      have HXB := hid (keep2 hB HX10.out)
      have HBA := hid (g_trans HB9.out hB)
      obtain ⟨k0, k1⟩ := HXA.out
      clear hB HX9 HL9 HC9 HX10 HB9 hS HLD HXS9 HLS9
      go_wp2_with fail
      refine (lv_goals HLA.out).mono ?_
      rintro _ w10 ⟨A, rfl, hRG, hb10⟩
      obtain ⟨bb, oo, rfl, hLG⟩ := hRG (by decide)
      have g0 : w10.cell? ⟨bb, oo, none⟩ = some (.string ⟨#[100, 111, 99]⟩) := hLG.2 0 (by decide) 0 _ rfl
      have g1 : w10.cell? ⟨bb, oo + 1, none⟩ = some (.string ⟨#[97]⟩) := hLG.2 0 (by decide) 1 _ rfl
      have g2 : w10.cell? ⟨bb, oo + 2, none⟩ = some (.string ⟨#[118, 105, 101, 119, 101, 114]⟩) := hLG.2 0 (by decide) 2 _ rfl
      obtain ⟨c0, c1, c2, -⟩ := keep18 hb10 HCA.out
      obtain ⟨k2, k3⟩ := keep2 hb10 HXA.out
      obtain ⟨k4, k5⟩ := keep2 hb10 HXB.out
      have HLB := hid (HLA.out.below hb10)
      have HBB := hid (g_trans HBA.out hb10)
      have heq := run_eqlG (glT t0) (glT t0) true (by simp)
      simp only [glT, t0] at heq
      clear k0 k1 hLG hb10 HCA HXA HXB HLA HBA
      go_upto_region 10 with fail
      have hS : w10.drew.cell? ⟨b6, 0, none⟩ = some (.func (.func 31) #[] #[]) ∧ w10.drew.cell? ⟨b6, 1, none⟩ = some (.pointer T2.ad) ∧ w10.drew.cell? ⟨bb, oo, none⟩ = some (.string ⟨#[100, 111, 99]⟩) ∧ w10.drew.cell? ⟨bb, oo + 1, none⟩ = some (.string ⟨#[97]⟩) ∧ w10.drew.cell? ⟨bb, oo + 2, none⟩ = some (.string ⟨#[118, 105, 101, 119, 101, 114]⟩) ∧ w10.drew.cell? ⟨g, 0, none⟩ = some (.string ⟨#[100, 111, 99]⟩) ∧ w10.drew.cell? ⟨g, 1, none⟩ = some (.string ⟨#[97]⟩) ∧ w10.drew.cell? ⟨g, 2, none⟩ = some (.string ⟨#[118, 105, 101, 119, 101, 114]⟩) ∧ w10.drew.cell? ⟨b10, 0, none⟩ = some (.nilFunc) ∧ w10.drew.cell? ⟨b10, 1, none⟩ = some (.pointer none) := ⟨k2, k3, g0, g1, g2, c0, c1, c2, k4, k5⟩
      have HLD : Hid (MapL w10.drew fv T2 [t1, t0]) := hid (HLB.out.below (g_drew g_refl))
      clear k2 k3 g0 g1 g2 c0 c1 c2 k4 k5
      go_region_held3 (fun w' => w'.cell? ⟨b6, 0, none⟩ = some (.func (.func 31) #[] #[]) ∧ w'.cell? ⟨b6, 1, none⟩ = some (.pointer T2.ad) ∧ w'.cell? ⟨bb, oo, none⟩ = some (.string ⟨#[100, 111, 99]⟩) ∧ w'.cell? ⟨bb, oo + 1, none⟩ = some (.string ⟨#[97]⟩) ∧ w'.cell? ⟨bb, oo + 2, none⟩ = some (.string ⟨#[118, 105, 101, 119, 101, 114]⟩) ∧ w'.cell? ⟨g, 0, none⟩ = some (.string ⟨#[100, 111, 99]⟩) ∧ w'.cell? ⟨g, 1, none⟩ = some (.string ⟨#[97]⟩) ∧ w'.cell? ⟨g, 2, none⟩ = some (.string ⟨#[118, 105, 101, 119, 101, 114]⟩) ∧ w'.cell? ⟨b10, 0, none⟩ = some (.nilFunc) ∧ w'.cell? ⟨b10, 1, none⟩ = some (.pointer none)) (first | with_reducible assumption | exact keep10 (by with_reducible assumption) (by with_reducible assumption))
        (first
        | (go_at_call 23; (with_reducible refine Calls.mono (lv_len2 HLD.out) ?_); rintro _ x1 ⟨rfl, hc1⟩)
        | (go_at_call 23; (with_reducible refine Calls.mono (lv_len0 _) ?_); rintro _ x2 ⟨rfl, hc2⟩))
      all_goals go_wp2
      all_goals go_ret
      all_goals exact ⟨rfl, g_trans (g_trans (g_drew HBB.out) hc1) hc2⟩
end Go.Proofs.Ytfgjeflhhfjgeaa.DT
namespace Go.Proofs.Ytfgjeflhhfjgeaa.DT
open Go.RowKit Go.Deep

theorem nb_spc (n : Nat) : nb (spc n) = true := by
  unfold spc
  split
  · decide +kernel
  · split <;> decide +kernel
theorem nb_idS (n : Nat) : nb (idS n) = true := by
  unfold idS
  repeat' split
  all_goals decide +kernel
theorem nb_relS (n : Nat) : nb (relS n) = true := by
  unfold relS
  repeat' split
  all_goals decide +kernel
theorem one_ok (p q : Nat) : okT (one p q) = true := by
  unfold one okT okSub
  split
  · simp [nb_spc, nb_idS, nb_relS]
  · simp only [nb_spc, nb_idS, nb_relS, emp]; rfl
theorem ofT_ok (x : List (Nat × Nat)) : ∀ t ∈ ofT x, okT t = true := fun t ht => by
  unfold ofT at ht
  obtain ⟨p, -, rfl⟩ := List.mem_map.1 ht
  exact one_ok _ _
/-- what With makes of a list that has room -/
def nx (l : List Tup) (k : Tup) (d : Bool) : List Tup := if d = true then Tr.del k l else put1 cmpT l k
theorem wth_nx {l : List Tup} {k : Tup} (d : Bool) (ho : okT k = true) (hl : l.length < 4096) : wth l k d = (nx l k d, 0) := by
  unfold wth nx put1
  rw [if_neg (by rw [ho]; decide)]
  cases d
  · simp only [Bool.false_eq_true, if_false]
    by_cases hm : k ∈ l
    · rw [if_pos hm, if_pos hm]
    · rw [if_neg hm, if_neg hm, if_neg (by omega)]
  · rw [if_pos rfl, if_pos rfl]
theorem nx_len (l : List Tup) (k : Tup) (d : Bool) : (nx l k d).length ≤ l.length + 1 := by
  unfold nx put1
  split
  · have := Tr.del_len (k := k) l; omega
  · split
    · omega
    · rw [length_ins]; omega
theorem nx_asc {l : List Tup} (h : Asc cmpT l) (k : Tup) (d : Bool) : Asc cmpT (nx l k d) := by
  unfold nx
  split
  · exact Tr.del_asc h
  · exact put1_asc tot k l h
theorem nx_ok {l : List Tup} (h : ∀ t ∈ l, okT t = true) {k : Tup} (hk : okT k = true) (d : Bool) : ∀ t ∈ nx l k d, okT t = true := by
  unfold nx
  split
  · intro t ht; exact h t (Tr.mem_del.1 ht).1
  · intro t ht
    rcases (put1_mem k t l).1 ht with e | ht
    · rw [e]; exact hk
    · exact h t ht
theorem nx_has (l : List Tup) (k : Tup) (d : Bool) : decide (k ∈ nx l k d) = !d := by
  unfold nx
  cases d
  · rw [if_neg Bool.noConfusion]
    exact decide_eq_true ((put1_mem k k l).2 (.inl rfl))
  · rw [if_pos rfl]
    exact decide_eq_false (fun h => (Tr.mem_del.1 h).2 rfl)
theorem nx_same {l : List Tup} {k : Tup} {d : Bool} (h : decide (k ∈ l) = !d) : nx l k d = l := by
  unfold nx put1
  cases d
  · rw [if_neg Bool.noConfusion, if_pos (of_decide_eq_true h)]
  · rw [if_pos rfl, Tr.del_new (of_decide_eq_false h)]
theorem nx_back {l : List Tup} (hl : Asc cmpT l) {k : Tup} {d : Bool} (h : nx l k d ≠ l) : nx (nx l k d) k (!d) = l := by
  have hk : decide (k ∈ l) = d := by
    cases e : decide (k ∈ l) <;> cases d
    · rfl
    · exact absurd (nx_same (by rw [e]; rfl)) h
    · exact absurd (nx_same (by rw [e]; rfl)) h
    · rfl
  refine Asc.uniq tot (nx_asc (nx_asc hl k d) k _) hl fun t => ?_
  cases d
  · have hk := of_decide_eq_false hk
    have e1 : nx (nx l k false) k (!false) = Tr.del k (put1 cmpT l k) := rfl
    rw [e1, Tr.mem_del, put1_mem]
    constructor
    · rintro ⟨h1 | h1, h2⟩
      · exact absurd h1 h2
      · exact h1
    · intro h1
      exact ⟨.inr h1, fun e => hk (e ▸ h1)⟩
  · have hk := of_decide_eq_true hk
    have e1 : nx (nx l k true) k (!true) = put1 cmpT (Tr.del k l) k := rfl
    rw [e1, put1_mem, Tr.mem_del]
    constructor
    · rintro (h1 | h1)
      · rw [h1]; exact hk
      · exact h1.1
    · intro h1
      by_cases e : t = k
      · exact .inl e
      · exact .inr ⟨h1, e⟩
theorem ofF_srt : ∀ (l acc : List Tup), acc.length + l.length ≤ 4096 → (∀ t ∈ l, okT t = true) → ofF acc l = (l.foldl (put1 cmpT) acc, 0)
  | [], acc, _, _ => rfl
  | k :: t, acc, hn, hv => by
    rw [List.length_cons] at hn
    have e := wth_nx (l := acc) (k := k) false (hv k List.mem_cons_self) (by omega)
    rw [ofF_go (by rw [e]), e, List.foldl_cons]
    have h1 := nx_len acc k false
    exact ofF_srt t _ (by show (nx acc k false).length + t.length ≤ 4096; omega) (fun x hx => hv x (List.mem_cons_of_mem _ hx))
theorem ofF_ofT (x : List (Nat × Nat)) : ofF [] (ofT x) = (srt cmpT (ofT x), 0) := ofF_srt _ _ (by have := ofT_len x; simp; omega) (ofT_ok x)
theorem srt_ok {l : List Tup} (h : ∀ t ∈ l, okT t = true) : ∀ t ∈ srt cmpT l, okT t = true := fun t ht => h t ((mem_srt tot l t).1 ht)
theorem sameI_self (l : List Tup) : sameI l l = 1 := by unfold sameI; rw [if_pos rfl]

/-- a list that a call has made -/
def GivesL1 (w : World) (l : List Tup) (e : Ending) (w' : World) : Prop := ∃ A c, e = .returned (.slice A l.length c) ∧ Row w' A l ∧ Below w.heap.size w w'
theorem of_t (A : Option Addr) (x : List (Nat × Nat)) (c : Nat) (w : World) (hR : RowN w A x) (hn : x.length ≤ maxLen) :
    Calls Try.prog 6 #[.agg #[.slice A x.length c]] w (GivesL1 w (ofT x)) :=
  (of_any A x c w hR hn).mono fun _ _ ⟨v, he, hO, hg⟩ => by
    obtain ⟨A', c', e, hR', -, -⟩ := hO.row
    exact ⟨A', c', by rw [he, e], hR', hg.toBelow⟩
theorem rsorted_t (A : Option Addr) (l : List Tup) (c : Nat) (w : World) (hR : Row w A l) (hF : ∀ x ∈ l, Fits x) (hn : l.length ≤ 9000) :
    Calls Try.prog 8 #[.slice A l.length c] w (GivesL1 w (srt cmpT l)) :=
  (rsorted A l c w hR hF hn).mono fun _ _ ⟨v, he, hO, hg⟩ => by
    obtain ⟨A', c', e, hR', -, -⟩ := hO.row
    exact ⟨A', c', by rw [he, e], hR', hg.toBelow⟩
/-- the order of a map can be stored -/
theorem store_ov {ov : Value} (h : ov = fv ∨ ov = .nilFunc) (W : World) (p : Addr) (h1 : (W.cell? p).isSome = true) (h2 : W.frozen? p = false) : (store p ov).run Try.prog W = .ok () (W.setCell p ov) := by
  obtain ⟨v, hv⟩ := some_of h1
  rcases h with rfl | rfl
  · simp only [fv]; go_simp
  · go_simp
theorem MapL.ovs {w : World} {ov : Value} {T : Tr} {l : List Tup} (h : MapL w ov T l) : ov = fv ∨ ov = .nilFunc := h.ov.elim .inl (fun h => .inr h.1)
/-- a list of tuples stays where a set is written -/
theorem row_set2 {W : World} {g : Nat} {t : TypeId} {ov : Value} {p A : Option Addr} {l : List Tup} (h : Row W A l) (hg : W.heap[g]? = some (.cells #[ov, .pointer p] t (0, 0))) (ho : ov = fv ∨ ov = .nilFunc) (u v : Value) :
    Row ((W.setCell ⟨g, 0, none⟩ u).setCell ⟨g, 1, none⟩ v) A l := fun hl => by
  obtain ⟨b, o, e, hb, hL⟩ := h hl
  have hpos : 0 < l.length := List.length_pos_iff.2 hl
  have hne : ¬ b = g := fun hbg => by
    subst hbg
    have h0 := hL 0 hpos 0 _ rfl
    rw [box_cell hg] at h0
    rcases o with _ | _ | o
    · rcases ho with rfl | rfl <;> simp [fv] at h0
    · simp at h0
    · simp at h0
  exact ⟨b, o, e, by simpa using hb, fun i hi c x hx => set_cc hne (hL i hi c x hx)⟩
theorem keep11 {a b : World} {p0 p1 p2 p3 p4 p5 p6 p7 p8 p9 p10 o0 o1 o2 o3 o4 o5 o6 o7 o8 o9 o10 : Nat} {x0 x1 x2 x3 x4 x5 x6 x7 x8 x9 x10 : Value} (h : Below a.heap.size a b)
    (s : a.cell? ⟨p0, o0, none⟩ = some x0 ∧ a.cell? ⟨p1, o1, none⟩ = some x1 ∧ a.cell? ⟨p2, o2, none⟩ = some x2 ∧ a.cell? ⟨p3, o3, none⟩ = some x3 ∧ a.cell? ⟨p4, o4, none⟩ = some x4 ∧ a.cell? ⟨p5, o5, none⟩ = some x5 ∧ a.cell? ⟨p6, o6, none⟩ = some x6 ∧ a.cell? ⟨p7, o7, none⟩ = some x7 ∧ a.cell? ⟨p8, o8, none⟩ = some x8 ∧ a.cell? ⟨p9, o9, none⟩ = some x9 ∧ a.cell? ⟨p10, o10, none⟩ = some x10) :
    b.cell? ⟨p0, o0, none⟩ = some x0 ∧ b.cell? ⟨p1, o1, none⟩ = some x1 ∧ b.cell? ⟨p2, o2, none⟩ = some x2 ∧ b.cell? ⟨p3, o3, none⟩ = some x3 ∧ b.cell? ⟨p4, o4, none⟩ = some x4 ∧ b.cell? ⟨p5, o5, none⟩ = some x5 ∧ b.cell? ⟨p6, o6, none⟩ = some x6 ∧ b.cell? ⟨p7, o7, none⟩ = some x7 ∧ b.cell? ⟨p8, o8, none⟩ = some x8 ∧ b.cell? ⟨p9, o9, none⟩ = some x9 ∧ b.cell? ⟨p10, o10, none⟩ = some x10 :=
  ⟨keep1 h s.1, keep1 h s.2.1, keep1 h s.2.2.1, keep1 h s.2.2.2.1, keep1 h s.2.2.2.2.1, keep1 h s.2.2.2.2.2.1, keep1 h s.2.2.2.2.2.2.1, keep1 h s.2.2.2.2.2.2.2.1, keep1 h s.2.2.2.2.2.2.2.2.1, keep1 h s.2.2.2.2.2.2.2.2.2.1, keep1 h s.2.2.2.2.2.2.2.2.2.2⟩

theorem same_z {N M : List Tup} {z : Bool} (hz : decide (N = M) = z) : (sameI N M == 1) = z := by
  unfold sameI
  by_cases h : N = M
  · rw [if_pos h, ← hz, decide_eq_true h]; rfl
  · rw [if_neg h, ← hz, decide_eq_false h]; rfl
theorem rsame_g (A B : Option Addr) (l m : List Tup) (c d : Nat) (w : World) (v : Int) (hR : Row w A l) (hS : Row w B m) (hn : l.length ≤ 10000) (h : sameI l m = v) :
    Calls Try.prog 15 #[.slice A l.length c, .slice B m.length d] w fun e w' => e = .returned (.int .i64 v) ∧ Below w.heap.size w w' := by
  subst h; exact (rsame_n A B l m _ _ c d w hR hS rfl rfl hn).mono fun _ _ h => ⟨h.1, h.2.toBelow⟩
theorem lsame_g {w : World} {ov : Value} {T : Tr} {m : List Tup} (h : MapL w ov T m) (A : Option Addr) (c : Nat) (hR : Row w A m) (hm : m.length ≤ 10000) :
    Calls Try.prog 9 #[.agg #[ov, .pointer T.ad], .slice A m.length c] w fun e w' => e = .returned (.int .i64 1) ∧ Below w.heap.size w w' := lsame_any h A m c 1 hR hm (sameI_self m)
theorem same_g {w : World} {ov ov2 : Value} {T T2 : Tr} {l m : List Tup} (z : Bool) (hz : decide (l = m) = z) (h : MapL w ov T l) (h2 : MapL w ov2 T2 m) (hn : l.length ≤ 10000) (hm : m.length ≤ 10000) :
    Calls Try.prog 14 #[.agg #[ov, .pointer T.ad], .agg #[ov2, .pointer T2.ad]] w fun e w' => e = .returned (.bool z) ∧ Below w.heap.size w w' := by
  subst hz; exact same_l h h2 hn hm
theorem row_set1 {W : World} {g j : Nat} {z : Bool} {A : Option Addr} {l : List Tup} (h : Row W A l) (hg : W.cell? ⟨g, j, none⟩ = some (.bool z)) (u : Value) : Row (W.setCell ⟨g, j, none⟩ u) A l := fun hl => by
  obtain ⟨b, o, e, hb, hL⟩ := h hl
  refine ⟨b, o, e, by simpa using hb, fun i hi c x hx => ?_⟩
  have h0 := hL i hi c x hx
  have hc := enc_lt hx
  by_cases hne : (⟨g, j, none⟩ : Addr) = ⟨b, o + i * 6 + c, none⟩
  · rw [← hne, hg] at h0
    injection h0 with h0
    subst h0
    match c, hc with
    | 0, _ => cases hx
    | 1, _ => cases hx
    | 2, _ => cases hx
    | 3, _ => cases hx
    | 4, _ => cases hx
    | 5, _ => cases hx
  · exact (World.cell?_setCell_other W _ _ u hne).trans h0
theorem cells_ne {W : World} {g1 g2 : Nat} {a1 a2 : Array Value} {t1 t2 : TypeId} {z1 z2 : Nat × Nat} (h1 : W.heap[g1]? = some (.cells a1 t1 z1)) (h2 : W.heap[g2]? = some (.cells a2 t2 z2)) (ht : t1 ≠ t2) : ¬ g1 = g2 := fun e => by
  subst e
  rw [h1] at h2
  injection h2 with h2
  injection h2 with _ h2 _
  exact ht h2
theorem of_x {w : World} (A : Option Addr) (x : List (Nat × Nat)) (c : Nat) (hR : Row w A (ofT x)) :
    Calls Try.prog 7 #[.slice A (ofT x).length c] w (GivesS w (srt cmpT (ofT x), 0)) := by
  have q := of_l A (ofT x) c hR (fun t ht => ok_fits (ofT_ok x t ht)) (Nat.le_trans (ofT_len x) (by decide))
  rw [ofF_ofT] at q; exact q
theorem with_x (k : Tup) (d : Bool) (ho : okT k = true) {w : World} {ov : Value} {T : Tr} {l : List Tup} (h : MapL w ov T l) (hn : l.length ≤ 4000) :
    Calls Try.prog 11 #[.agg #[ov, .pointer T.ad], .agg #[.string k.a, .string k.b, .string k.c, .string k.d, .string k.e, .string k.f, .bool d]] w (GivesS w (nx l k d, 0)) := by
  have q := with_l k d (ok_fits ho) h (Nat.le_trans hn (by decide))
  rw [wth_nx d ho (by omega)] at q; exact q
theorem rwith_x (A : Option Addr) (l : List Tup) (c : Nat) (k : Tup) (d : Bool) (w : World) (hR : Row w A l) (hv : ∀ t ∈ l, okT t = true) (ho : okT k = true) (hl : Asc cmpT l) (hn : l.length ≤ 4000) :
    Calls Try.prog 12 #[.slice A l.length c, .agg #[.string k.a, .string k.b, .string k.c, .string k.d, .string k.e, .string k.f, .bool d]] w (GivesW w (nx l k d, 0)) := by
  have q := rwith_any A l c k d w hR (fun t ht => ok_fits (hv t ht)) (ok_fits ho) hl hn
  rw [wth_nx d ho (by omega)] at q; exact q
end Go.Proofs.Ytfgjeflhhfjgeaa.DT
namespace Go.Proofs.Ytfgjeflhhfjgeaa
open Go.ChangeShapes Go.WideShapes Go.ChangeAt Go.RowKit Go.Deep
variable {H : Type} {enc : TypeId × Value → H} {P : Program} {w : World} {base : Nat} {spare : Nat → Bool} {held : Bool}

theorem u8_nat {n : Int} (h : (Lit.int .u8 n).wf = true) : n = (n.toNat : Int) ∧ n.toNat < 256 := by
  simp [Lit.wf, IntKind.min, IntKind.max, IntKind.signed, IntKind.bits] at h
  omega
/-- two bytes of an array -/
theorem trod_two {e b : TypeId} {fuel : Nat} {u v : Value} {x : DataW H × List MemPlace} (he : P.underlying e = some (.array 2 b)) (cB : P.cellsOf b = 1) (hb : P.underlying b = some (.int .u8)) (h : DataW.trod enc P w base spare held fuel e [u, v] = some x) :
    ∃ p q : Nat, u = .int .u8 p ∧ v = .int .u8 q ∧ p < 256 ∧ q < 256 := by
  obtain ⟨xs, m', _, _, _, hxl, hxs⟩ := DataW.trod_array he h
  have h0 := hxs 0 (by decide)
  have h1 := hxs 1 (by decide)
  rw [cB] at h0 h1
  match xs, hxl with
  | [y0, y1], _ =>
    obtain ⟨n0, e0, -, w0⟩ := DataW.trod_int (cs := [u]) hb (by simpa using h0)
    obtain ⟨n1, e1, -, w1⟩ := DataW.trod_int (cs := [v]) hb (by simpa using h1)
    simp only [List.cons.injEq, and_true] at e0 e1
    obtain ⟨k0, l0⟩ := u8_nat w0
    obtain ⟨k1, l1⟩ := u8_nat w1
    exact ⟨n0.toNat, n1.toNat, by rw [e0, ← k0], by rw [e1, ← k1], l0, l1⟩
/-- a pair of bytes by value -/
theorem open_two {e b : TypeId} {r : Reach} {b0 : Nat} {v : Value} {d : DataW H} {p : List MemPlace} (he : P.underlying e = some (.array 2 b)) (cE : P.cellsOf e = 2) (cB : P.cellsOf b = 1) (hb : P.underlying b = some (.int .u8))
    (hv : Value.okWide P w r b0 e v) (h : DataW.Trod enc P w base spare held e v d p) :
    ∃ x y : Nat, v = .agg #[.int .u8 x, .int .u8 y] ∧ x < 256 ∧ y < 256 := by
  obtain ⟨cs, rfl, hsz, _⟩ : ∃ cs, v = .agg cs ∧ cs.size = P.cellsOf e ∧ Row.okWide P w r b0 e cs := by
    simpa [Value.okWide, he] using hv
  rw [cE] at hsz
  obtain ⟨l⟩ := cs
  match l, hsz with
  | [c0, c1], _ =>
    obtain ⟨fuel, hf⟩ := h
    obtain ⟨x, y, rfl, rfl, hx, hy⟩ := trod_two he cB hb (u := c0) (v := c1) (by simpa [Value.cells] using hf)
    exact ⟨x, y, rfl, hx, hy⟩
/-- the number in a cell -/
def cellN (w : World) (a : Addr) : Nat :=
  match w.cell? a with
  | some (.int _ n) => n.toNat
  | _ => 0
theorem cellN_of {w : World} {a : Addr} {n : Nat} (h : w.cell? a = some (.int .u8 n)) : cellN w a = n := by unfold cellN; rw [h]; simp
theorem addr_none {w : World} {a : Addr} {u : Value} (h : w.cell? (a.add 0) = some u) : a = ⟨a.block, a.off, none⟩ := by
  obtain ⟨b, o, s⟩ := a
  rw [show (⟨b, o, s⟩ : Addr).add 0 = ⟨b, o, s⟩ from rfl] at h
  cases s with
  | none => rfl
  | some k =>
    exfalso
    unfold World.cell? at h
    split at h <;> simp at h
theorem add_plain (b o k : Nat) : (⟨b, o, none⟩ : Addr).add k = ⟨b, o + k, none⟩ := by
  unfold Addr.add
  by_cases h : k = 0
  · subst h; rfl
  · rw [if_neg h]
theorem open_pairs {t s e b : TypeId} {f0 : Field} {r : Reach} {b0 : Nat} {v : Value} {d : DataW H} {p : List MemPlace} (ht : P.underlying t = some (.struct #[f0])) (hft : f0.type = s) (ho : f0.offset = 0) (cT : P.cellsOf t = 1) (cS : P.cellsOf s = 1) (hs : P.underlying s = some (.slice e))
    (he : P.underlying e = some (.array 2 b)) (cE : P.cellsOf e = 2) (cB : P.cellsOf b = 1) (hb : P.underlying b = some (.int .u8))
    (hv : Value.okWide P w r b0 t v) (h : DataW.Trod enc P w base spare held t v d p) :
    ∃ A x c, v = .agg #[.slice A x.length c] ∧ x.length ≤ maxLen ∧ RowN w A x := by
  obtain ⟨cs, rfl, hsz⟩ := okWide_struct ht hv
  obtain ⟨l⟩ := cs
  match l, hsz.trans cT with
  | [c0], _ =>
    obtain ⟨fuel, hf⟩ := h
    obtain ⟨y0, n, _, _, h0⟩ := trod_struct1 ht hf
    rw [hft, ho, cS] at h0
    have h0' : DataW.trod enc P w base spare held n s [c0] = some y0 := by simpa [Value.cells] using h0
    rcases open_slice hs h0' with ⟨hc, -⟩ | ⟨a, len, cap, m, k, D, Pl, hc, hbase, hle, hcap, hm, -, hel⟩
    · simp only [List.cons.injEq, and_true] at hc
      subst hc
      exact ⟨none, [], 0, rfl, Nat.zero_le _, fun h => absurd rfl h⟩
    · simp only [List.cons.injEq, and_true] at hc
      subst hc
      have hml : len ≤ m := by rw [hm]; split <;> omega
      have key : ∀ i, i < len → ∃ p q : Nat, w.cell? (a.add (i * 2)) = some (.int .u8 p) ∧ w.cell? (a.add (i * 2 + 1)) = some (.int .u8 q) ∧ p < 256 ∧ q < 256 := fun i hi => by
        obtain ⟨cs', hcells, htr⟩ := hel i (by omega)
        rw [cE] at hcells
        obtain ⟨_, hlen, hcell⟩ := World.cells?_some hcells
        match cs', hlen with
        | [u, v], _ =>
          obtain ⟨p, q, rfl, rfl, hp, hq⟩ := trod_two he cB hb htr
          have k0 := hcell 0 (by decide)
          have k1 := hcell 1 (by decide)
          rw [Addr.add_add] at k0 k1
          exact ⟨p, q, by simpa using k0, by simpa using k1, hp, hq⟩
      refine ⟨some a, (List.range len).map fun i => (cellN w (a.add (i * 2)), cellN w (a.add (i * 2 + 1))), cap, by simp, by simp; omega, fun hne => ?_⟩
      have hlen : 0 < len := by
        rcases Nat.eq_zero_or_pos len with h | h
        · subst h; exact absurd rfl hne
        · exact h
      obtain ⟨p0, q0, hc0, -⟩ := key 0 hlen
      have ha := addr_none (by simpa using hc0)
      have hlt := World.block_lt_of_cell? _ _ hc0
      rw [ha] at hlt
      refine ⟨a.block, a.off, by rw [← ha], by simpa [Addr.add] using hlt, fun i hi => ?_⟩
      have hi' : i < len := by simpa using hi
      obtain ⟨p, q, e0, e1, hp, hq⟩ := key i hi'
      have f0 := cellN_of e0
      have f1 := cellN_of e1
      rw [ha, add_plain] at e0 e1
      simp only [List.getElem_map, List.getElem_range, f0, f1]
      exact ⟨hp, hq, e0, by rw [← Nat.add_assoc] at e1; exact e1⟩

end Go.Proofs.Ytfgjeflhhfjgeaa
namespace Go.Proofs.Ytfgjeflhhfjgeaa
open Go.ChangeShapes Go.WideShapes Go.ChangeAt Go.RowKit Go.Deep
variable {H : Type} {enc : TypeId × Value → H} {P : Program} {w : World} {base : Nat} {spare : Nat → Bool} {held : Bool}

/-- triples of bytes that lie one behind the other -/
def RowM (w : World) (A : Option Addr) (x : List (Nat × Nat × Nat)) : Prop :=
  x ≠ [] → ∃ b o, A = some ⟨b, o, none⟩ ∧ b < w.heap.size ∧ ∀ i, (h : i < x.length) → x[i].1 < 256 ∧ x[i].2.1 < 256 ∧ x[i].2.2 < 256 ∧ w.cell? ⟨b, o + i * 3, none⟩ = some (.int .u8 (x[i].1 : Nat)) ∧ w.cell? ⟨b, o + i * 3 + 1, none⟩ = some (.int .u8 (x[i].2.1 : Nat)) ∧ w.cell? ⟨b, o + i * 3 + 2, none⟩ = some (.int .u8 (x[i].2.2 : Nat))
theorem RowM.below {w w' : World} {A : Option Addr} {x : List (Nat × Nat × Nat)} (h : RowM w A x) (hb : Below w.heap.size w w') : RowM w' A x := fun hl => by
  obtain ⟨b, o, e, h1, h2⟩ := h hl
  refine ⟨b, o, e, Nat.lt_of_lt_of_le h1 hb.size, fun i hi => ?_⟩
  obtain ⟨p, q, r, c0, c1, c2⟩ := h2 i hi
  exact ⟨p, q, r, (hb.cell (p := ⟨b, _, none⟩) h1).trans c0, (hb.cell (p := ⟨b, _, none⟩) h1).trans c1, (hb.cell (p := ⟨b, _, none⟩) h1).trans c2⟩
theorem RowN.below {w w' : World} {A : Option Addr} {x : List (Nat × Nat)} (h : RowN w A x) (hb : Below w.heap.size w w') : RowN w' A x := fun hl => by
  obtain ⟨b, o, e, h1, h2⟩ := h hl
  refine ⟨b, o, e, Nat.lt_of_lt_of_le h1 hb.size, fun i hi => ?_⟩
  obtain ⟨p, q, c0, c1⟩ := h2 i hi
  exact ⟨p, q, (hb.cell (p := ⟨b, _, none⟩) h1).trans c0, (hb.cell (p := ⟨b, _, none⟩) h1).trans c1⟩
/-- three bytes of an array -/
theorem trod_thr {e b : TypeId} {fuel : Nat} {u v z : Value} {x : DataW H × List MemPlace} (he : P.underlying e = some (.array 3 b)) (cB : P.cellsOf b = 1) (hb : P.underlying b = some (.int .u8)) (h : DataW.trod enc P w base spare held fuel e [u, v, z] = some x) :
    ∃ p q r : Nat, u = .int .u8 p ∧ v = .int .u8 q ∧ z = .int .u8 r ∧ p < 256 ∧ q < 256 ∧ r < 256 := by
  obtain ⟨xs, m', _, _, _, hxl, hxs⟩ := DataW.trod_array he h
  have h0 := hxs 0 (by decide)
  have h1 := hxs 1 (by decide)
  have h2 := hxs 2 (by decide)
  rw [cB] at h0 h1 h2
  match xs, hxl with
  | [y0, y1, y2], _ =>
    obtain ⟨n0, e0, -, w0⟩ := DataW.trod_int (cs := [u]) hb (by simpa using h0)
    obtain ⟨n1, e1, -, w1⟩ := DataW.trod_int (cs := [v]) hb (by simpa using h1)
    obtain ⟨n2, e2, -, w2⟩ := DataW.trod_int (cs := [z]) hb (by simpa using h2)
    simp only [List.cons.injEq, and_true] at e0 e1 e2
    obtain ⟨k0, l0⟩ := u8_nat w0
    obtain ⟨k1, l1⟩ := u8_nat w1
    obtain ⟨k2, l2⟩ := u8_nat w2
    exact ⟨n0.toNat, n1.toNat, n2.toNat, by rw [e0, ← k0], by rw [e1, ← k1], by rw [e2, ← k2], l0, l1, l2⟩
/-- three bytes by value -/
theorem open_thr {e b : TypeId} {r : Reach} {b0 : Nat} {v : Value} {d : DataW H} {p : List MemPlace} (he : P.underlying e = some (.array 3 b)) (cE : P.cellsOf e = 3) (cB : P.cellsOf b = 1) (hb : P.underlying b = some (.int .u8))
    (hv : Value.okWide P w r b0 e v) (h : DataW.Trod enc P w base spare held e v d p) :
    ∃ x y z : Nat, v = .agg #[.int .u8 x, .int .u8 y, .int .u8 z] ∧ x < 256 ∧ y < 256 ∧ z < 256 := by
  obtain ⟨cs, rfl, hsz, _⟩ : ∃ cs, v = .agg cs ∧ cs.size = P.cellsOf e ∧ Row.okWide P w r b0 e cs := by
    simpa [Value.okWide, he] using hv
  rw [cE] at hsz
  obtain ⟨l⟩ := cs
  match l, hsz with
  | [c0, c1, c2], _ =>
    obtain ⟨fuel, hf⟩ := h
    obtain ⟨x, y, z, rfl, rfl, rfl, hx, hy, hz⟩ := trod_thr he cB hb (u := c0) (v := c1) (z := c2) (by simpa [Value.cells] using hf)
    exact ⟨x, y, z, rfl, hx, hy, hz⟩
theorem cell_pairs {s e b : TypeId} {n : Nat} {c0 : Value} {y0 : DataW H × List MemPlace} (hs : P.underlying s = some (.slice e))
    (he : P.underlying e = some (.array 2 b)) (cE : P.cellsOf e = 2) (cB : P.cellsOf b = 1) (hb : P.underlying b = some (.int .u8)) (h : DataW.trod enc P w base spare held n s [c0] = some y0) :
    ∃ A x c, c0 = .slice A (x : List (Nat × Nat)).length c ∧ x.length ≤ maxLen ∧ RowN w A x := by
  rcases open_slice hs h with ⟨hc, -⟩ | ⟨a, len, cap, m, k, D, Pl, hc, hbase, hle, hcap, hm, -, hel⟩
  · simp only [List.cons.injEq, and_true] at hc
    subst hc
    exact ⟨none, [], 0, rfl, Nat.zero_le _, fun h => absurd rfl h⟩
  · simp only [List.cons.injEq, and_true] at hc
    subst hc
    have hml : len ≤ m := by rw [hm]; split <;> omega
    have key : ∀ i, i < len → ∃ p q : Nat, w.cell? (a.add (i * 2)) = some (.int .u8 p) ∧ w.cell? (a.add (i * 2 + 1)) = some (.int .u8 q) ∧ p < 256 ∧ q < 256 := fun i hi => by
      obtain ⟨cs', hcells, htr⟩ := hel i (by omega)
      rw [cE] at hcells
      obtain ⟨_, hlen, hcell⟩ := World.cells?_some hcells
      match cs', hlen with
      | [u, v], _ =>
        obtain ⟨p, q, rfl, rfl, hp, hq⟩ := trod_two he cB hb htr
        have k0 := hcell 0 (by decide)
        have k1 := hcell 1 (by decide)
        rw [Addr.add_add] at k0 k1
        exact ⟨p, q, by simpa using k0, by simpa using k1, hp, hq⟩
    refine ⟨some a, (List.range len).map fun i => (cellN w (a.add (i * 2)), cellN w (a.add (i * 2 + 1))), cap, by simp, by simp; omega, fun hne => ?_⟩
    have hlen : 0 < len := by
      rcases Nat.eq_zero_or_pos len with h | h
      · subst h; exact absurd rfl hne
      · exact h
    obtain ⟨p0, q0, hc0, -⟩ := key 0 hlen
    have ha := addr_none (by simpa using hc0)
    have hlt := World.block_lt_of_cell? _ _ hc0
    rw [ha] at hlt
    refine ⟨a.block, a.off, by rw [← ha], by simpa [Addr.add] using hlt, fun i hi => ?_⟩
    have hi' : i < len := by simpa using hi
    obtain ⟨p, q, e0, e1, hp, hq⟩ := key i hi'
    have f0 := cellN_of e0
    have f1 := cellN_of e1
    rw [ha, add_plain] at e0 e1
    simp only [List.getElem_map, List.getElem_range, f0, f1]
    exact ⟨hp, hq, e0, by rw [← Nat.add_assoc] at e1; exact e1⟩
theorem cell_triples {s e b : TypeId} {n : Nat} {c0 : Value} {y0 : DataW H × List MemPlace} (hs : P.underlying s = some (.slice e))
    (he : P.underlying e = some (.array 3 b)) (cE : P.cellsOf e = 3) (cB : P.cellsOf b = 1) (hb : P.underlying b = some (.int .u8)) (h : DataW.trod enc P w base spare held n s [c0] = some y0) :
    ∃ A x c, c0 = .slice A (x : List (Nat × Nat × Nat)).length c ∧ x.length ≤ maxLen ∧ RowM w A x := by
  rcases open_slice hs h with ⟨hc, -⟩ | ⟨a, len, cap, m, k, D, Pl, hc, hbase, hle, hcap, hm, -, hel⟩
  · simp only [List.cons.injEq, and_true] at hc
    subst hc
    exact ⟨none, [], 0, rfl, Nat.zero_le _, fun h => absurd rfl h⟩
  · simp only [List.cons.injEq, and_true] at hc
    subst hc
    have hml : len ≤ m := by rw [hm]; split <;> omega
    have key : ∀ i, i < len → ∃ p q r : Nat, w.cell? (a.add (i * 3)) = some (.int .u8 p) ∧ w.cell? (a.add (i * 3 + 1)) = some (.int .u8 q) ∧ w.cell? (a.add (i * 3 + 2)) = some (.int .u8 r) ∧ p < 256 ∧ q < 256 ∧ r < 256 := fun i hi => by
      obtain ⟨cs', hcells, htr⟩ := hel i (by omega)
      rw [cE] at hcells
      obtain ⟨_, hlen, hcell⟩ := World.cells?_some hcells
      match cs', hlen with
      | [u, v, z], _ =>
        obtain ⟨p, q, r, rfl, rfl, rfl, hp, hq, hr⟩ := trod_thr he cB hb htr
        have k0 := hcell 0 (by decide)
        have k1 := hcell 1 (by decide)
        have k2 := hcell 2 (by decide)
        rw [Addr.add_add] at k0 k1 k2
        exact ⟨p, q, r, by simpa using k0, by simpa using k1, by simpa using k2, hp, hq, hr⟩
    refine ⟨some a, (List.range len).map fun i => (cellN w (a.add (i * 3)), cellN w (a.add (i * 3 + 1)), cellN w (a.add (i * 3 + 2))), cap, by simp, by simp; omega, fun hne => ?_⟩
    have hlen : 0 < len := by
      rcases Nat.eq_zero_or_pos len with h | h
      · subst h; exact absurd rfl hne
      · exact h
    obtain ⟨p0, q0, r0, hc0, -⟩ := key 0 hlen
    have ha := addr_none (by simpa using hc0)
    have hlt := World.block_lt_of_cell? _ _ hc0
    rw [ha] at hlt
    refine ⟨a.block, a.off, by rw [← ha], by simpa [Addr.add] using hlt, fun i hi => ?_⟩
    have hi' : i < len := by simpa using hi
    obtain ⟨p, q, r, e0, e1, e2, hp, hq, hr⟩ := key i hi'
    have f0 := cellN_of e0
    have f1 := cellN_of e1
    have f2 := cellN_of e2
    rw [ha, add_plain] at e0 e1 e2
    simp only [List.getElem_map, List.getElem_range, f0, f1, f2]
    exact ⟨hp, hq, hr, e0, by rw [← Nat.add_assoc] at e1; exact e1, by rw [← Nat.add_assoc] at e2; exact e2⟩
/-- a set as the laws draw it -/
theorem open_set {t tt s e b s2 e2 : TypeId} {f0 f1 g0 : Field} {r : Reach} {b0 : Nat} {v : Value} {d : DataW H} {p : List MemPlace} (ht : P.underlying t = some (.struct #[f0, f1])) (hft : f0.type = tt) (ho : f0.offset = 0) (hft1 : f1.type = s2) (ho1 : f1.offset = 1) (cT : P.cellsOf t = 2)
    (htt : P.underlying tt = some (.struct #[g0])) (hgt : g0.type = s) (hgo : g0.offset = 0) (cTT : P.cellsOf tt = 1) (cS : P.cellsOf s = 1) (hs : P.underlying s = some (.slice e))
    (he : P.underlying e = some (.array 2 b)) (cE : P.cellsOf e = 2) (cB : P.cellsOf b = 1) (hb : P.underlying b = some (.int .u8)) (cS2 : P.cellsOf s2 = 1) (hs2 : P.underlying s2 = some (.slice e2)) (he2 : P.underlying e2 = some (.array 3 b)) (cE2 : P.cellsOf e2 = 3)
    (hv : Value.okWide P w r b0 t v) (h : DataW.Trod enc P w base spare held t v d p) :
    ∃ A x c B y c2, v = .agg #[.slice A (x : List (Nat × Nat)).length c, .slice B (y : List (Nat × Nat × Nat)).length c2] ∧ x.length ≤ maxLen ∧ RowN w A x ∧ y.length ≤ maxLen ∧ RowM w B y := by
  obtain ⟨cs, rfl, hsz⟩ := okWide_struct ht hv
  obtain ⟨l⟩ := cs
  match l, hsz.trans cT with
  | [c0, c1], _ =>
    obtain ⟨fuel, hf⟩ := h
    obtain ⟨y0, y1, n, _, _, h0, h1⟩ := trod_struct2 ht hf
    rw [hft, ho, cTT] at h0
    rw [hft1, ho1, cS2] at h1
    have h0' : DataW.trod enc P w base spare held n tt [c0] = some y0 := by simpa [Value.cells] using h0
    have h1' : DataW.trod enc P w base spare held n s2 [c1] = some y1 := by simpa [Value.cells] using h1
    obtain ⟨z0, n2, _, _, h2⟩ := trod_struct1 htt h0'
    rw [hgt, hgo, cS] at h2
    have h2' : DataW.trod enc P w base spare held n2 s [c0] = some z0 := by simpa using h2
    obtain ⟨A, x, c, rfl, hx, hR⟩ := cell_pairs hs he cE cB hb h2'
    obtain ⟨B, y, c2, rfl, hy, hM⟩ := cell_triples hs2 he2 cE2 cB hb h1'
    exact ⟨A, x, c, B, y, c2, rfl, hx, hR, hy, hM⟩
end Go.Proofs.Ytfgjeflhhfjgeaa
namespace Go.Proofs.Ytfgjeflhhfjgeaa.DT
open Go.RowKit Go.Deep

/-- a sorted list of few tuples -/
def GivesF (n : Nat) (e : Ending) (w' : World) : Prop := ∃ (D : Option Addr) (L : List Tup) (cD : Nat), e = .returned (.slice D L.length cD) ∧ Row w' D L ∧ (∀ t ∈ L, okT t = true) ∧ Asc cmpT L ∧ L.length ≤ n
set_option maxRecDepth 20000 in
set_option maxHeartbeats 8000000 in
theorem sof_any (A : Option Addr) (x : List (Nat × Nat)) (c : Nat) (B : Option Addr) (y : List (Nat × Nat × Nat)) (c2 : Nat) (w : World) (hR : RowN w A x) (hx : x.length ≤ maxLen) (hM : RowM w B y) (hy : y.length ≤ maxLen) :
    Calls Try.prog 17 #[.agg #[.slice A x.length c, .slice B y.length c2]] w fun e w' => GivesF 50 e w' ∧ Below w.heap.size w w' := by
  have hA : Below w.heap.size w (w.alloc (.cells #[.slice A x.length c, .slice B y.length c2] 27 (0, 0))) := g_alloc g_refl _
  have HA := hid hA
  have HBX := hid (box2p w (.slice A x.length c) (.slice B y.length c2) 27)
  have HM := hid (hM.below hA)
  have HT := hid (of_t A x c _ (hR.below hA) hx)
  have HY : Hid (y.length ≤ 9223372036854775807) := hid hy
  clear hA hR hx hM hy
  go_enter Try.func17, Try.ntmps17
  go_wp2_with fail
  generalize hA1 : w.alloc (.cells #[.slice A x.length c, .slice B y.length c2] 27 (0, 0)) = A1 at *
  generalize hq : w.heap.size = q at *
  have HQ := hid hq
  clear hA1 hq
  refine HT.out.mono ?_
  rintro _ w1 ⟨C, cC, rfl, hRC, hb1⟩
  have HB1 := hid hb1
  go_wp2_with fail
  refine (rsorted_t C (ofT x) cC _ hRC (fun t ht => ok_fits (ofT_ok x t ht)) (Nat.le_trans (ofT_len x) (by decide))).mono ?_
  rintro _ w3 ⟨D, cD, rfl, hRD, hb3⟩
  have HRD := hid hRD
  have HB3 := hid (g_trans HB1.out hb3)
  have hLok := srt_ok (ofT_ok x)
  have hLasc := asc_srt tot (ofT x)
  have hLlen := Nat.le_trans (length_srt (cmp := cmpT) (ofT x)) (ofT_len x)
  clear hRC hRD hb1 hb3 HT
  generalize srt cmpT (ofT x) = L at *
  have HOK := hid hLok
  have HASC := hid hLasc
  have HLN := hid hLlen
  have HX2 := hid (keep2 HB3.out HBX.out)
  have HM2 := hid (HM.out.below HB3.out)
  clear hLok hLasc hLlen HBX HM HB1
  go_wp2
  go_loopw [3, 4] (fun v i wr => ∃ (k : Nat) (L : List Tup) (D : Option Addr) (cD : Nat), k ≤ 30 ∧ i = .int .i64 k ∧ v = .slice D L.length cD ∧ Row wr D L ∧ (∀ t ∈ L, okT t = true) ∧ Asc cmpT L ∧ L.length ≤ 20 + k ∧ Below w3.heap.size w3 wr) (fun _ i _ => 30 - (intOf i).toNat)
  case atStart => exact ⟨0, L, D, cD, by omega, rfl, rfl, HRD.out, HOK.out, HASC.out, HLN.out, g_refl⟩
  case round =>
    clear HRD HOK HASC HLN
    obtain ⟨k, M, E, cE, hk, rfl, rfl, hRE, hok, hasc, hlen, hw⟩ := hrel
    obtain ⟨z0, z1⟩ := keep2 (show Below w3.heap.size w3 wr from hw) HX2.out
    have HK := hid hk
    by_cases hlt : k < y.length
    · by_cases h30 : k < 30
      · have i1 : (k : Int) < (y.length : Int) := by omega
        have i2 : (k : Int) < 30 := by omega
        obtain ⟨b, o, rfl, hbl, hel⟩ := (HM2.out.below hw) (fun e => by rw [e] at hlt; simp at hlt)
        obtain ⟨hp, hq, hr, e0, e1, e2⟩ := hel k hlt
        obtain ⟨t, ht⟩ : ∃ t, one y[k].1 y[k].2.1 = t := ⟨_, rfl⟩
        obtain ⟨d, hd⟩ : ∃ d, decide (y[k].2.2 % 2 = 1) = d := ⟨_, rfl⟩
        have hot : okT t = true := by rw [← ht]; exact one_ok _ _
        have HCH := hid (fun W => change_any y[k].1 y[k].2.1 y[k].2.2 W hp hq hr t ht d hd)
        have HOT := hid hot
        have HRE := hid hRE
        have HOK := hid hok
        have HASC := hid hasc
        have HLN := hid hlen
        have HW := hid hw
        generalize y[k].1 = yp at *
        generalize y[k].2.1 = yq at *
        generalize y[k].2.2 = yr at *
        clear hk hp hq hr ht hd hot hRE hok hasc hlen hw hbl hel
        go_wp2_with fail
        refine (HCH.out _).mono ?_
        rintro _ w5 ⟨rfl, hb5⟩
        have HB5 := hid hb5
        clear e0 e1 e2 z0 z1 hb5
        go_wp2_with fail
        refine (rwith_x E M cE t d _ (HRE.out.below HB5.out) HOK.out HOT.out HASC.out (by have := HLN.out; omega)).mono ?_
        rintro _ w6 ⟨F, cF, rfl, hRF, hb6⟩
        have hlen := nx_len M t d
        have HB6 := hid (g_trans (g_trans HW.out HB5.out) hb6)
        have HRF := hid hRF
        clear hRF hb6
        go_wp2
        go_roundw
        case rel => exact ⟨k + 1, nx M t d, F, cF, by omega, by go_num, rfl, HRF.out, nx_ok HOK.out HOT.out d, nx_asc HASC.out t d, by have := HLN.out; omega, HB6.out⟩
        case measure => simp [intOf]; omega
      · have i2 : ¬ (k : Int) < 30 := by omega
        have i1 : (k : Int) < (y.length : Int) := by omega
        go_wp2
        go_ret
        have h := HQ.out
        subst h
        exact ⟨⟨E, M, cE, rfl, hRE, hok, hasc, by omega⟩, g_trans (g_trans HA.out HB3.out) hw⟩
    · have i1 : ¬ (k : Int) < (y.length : Int) := by omega
      go_wp2
      go_ret
      have h := HQ.out
      subst h
      exact ⟨⟨E, M, cE, rfl, hRE, hok, hasc, by omega⟩, g_trans (g_trans HA.out HB3.out) hw⟩
end Go.Proofs.Ytfgjeflhhfjgeaa.DT
namespace Go.Proofs.Ytfgjeflhhfjgeaa.DT
open Go.RowKit Go.Deep

/-- a block of a type with so many cells -/
def Blk (W : World) (g : Nat) (t : TypeId) (cs : Array Value) : Prop := W.heap[g]? = some (.cells cs t (0, 0))
def Big (W : World) (g : Nat) (t : TypeId) (n : Nat) : Prop := ∃ cs, Blk W g t cs ∧ cs.size = n
/-- the store, and the world behind it -/
def stB (t : TypeId) (p : Addr) (v : Value) : Sem Unit := storeVar t p v
def putB (W : World) (g : Nat) (cs : Array Value) : World := W.setCells g 0 cs.toList
section
variable {W x : World} {g k : Nat} {t t' : TypeId} {cs ds : Array Value} {n m : Nat}
theorem Blk.big (h : Blk W g t cs) : Big W g t cs.size := ⟨cs, h, rfl⟩
theorem Blk.lt (h : Blk W g t cs) : g < W.heap.size := (Array.getElem?_eq_some_iff.1 h).1
theorem Big.lt (h : Big W g t n) : g < W.heap.size := by obtain ⟨cs, h, -⟩ := h; exact h.lt
theorem Blk.below (h : Blk W g t cs) (hb : Below W.heap.size W x) : Blk x g t cs := (hb.block g h.lt).trans h
theorem Big.below (h : Big W g t n) (hb : Below W.heap.size W x) : Big x g t n := by obtain ⟨cs, h, e⟩ := h; exact ⟨cs, h.below hb, e⟩
theorem Blk.old (h : Blk W g t cs) (o : Obj) : Blk (W.alloc o) g t cs := new_old h
theorem Big.old (h : Big W g t n) (o : Obj) : Big (W.alloc o) g t n := by obtain ⟨cs, h, e⟩ := h; exact ⟨cs, h.old o, e⟩
theorem Blk.drew (h : Blk W g t cs) : Blk W.drew g t cs := h
theorem Big.drew (h : Big W g t n) : Big W.drew g t n := h
theorem Blk.new (W : World) (t : TypeId) (cs : Array Value) : Blk (W.alloc (.cells cs t (0, 0))) W.heap.size t cs := new_at _ _
theorem Blk.new1 (W : World) (o : Obj) (t : TypeId) (cs : Array Value) : Blk ((W.alloc o).alloc (.cells cs t (0, 0))) (W.heap.size + 1) t cs := by
  have h := Blk.new (W.alloc o) t cs
  rw [show (W.alloc o).heap.size = W.heap.size + 1 by simp] at h; exact h
theorem Blk.cell (h : Blk W g t cs) (j : Nat) : W.cell? ⟨g, j, none⟩ = cs[j]? := box_cell h j
theorem Big.there (h : Big W g t n) : W.there g 0 n := fun j hj => by
  obtain ⟨cs, h, e⟩ := h
  rw [Nat.zero_add, h.cell j, Array.getElem?_eq_getElem (by omega)]
  refine ⟨rfl, ?_⟩
  unfold Blk at h; simp [World.frozen?, h]
theorem set_blk (cs : List Value) : ∀ (W : World) (i : Nat) (ds : Array Value), Blk W g t ds → ∃ es, Blk (W.setCells g i cs) g t es ∧ es.size = ds.size := by
  induction cs with
  | nil => exact fun W i ds h => ⟨ds, h, rfl⟩
  | cons v r ih =>
    intro W i ds h
    obtain ⟨es, h2, e⟩ := ih (W.setCell ⟨g, i, none⟩ v) (i + 1) _ (heap_setCell_same W g i ds t v h)
    exact ⟨es, h2, by rw [e]; simp⟩
theorem set_apart (hn : ¬ k = g) (cs : List Value) : ∀ (W : World) (i : Nat), (W.setCells g i cs).heap[k]? = W.heap[k]? := by
  induction cs with
  | nil => exact fun W i => rfl
  | cons v r ih => intro W i; exact (ih (W.setCell ⟨g, i, none⟩ v) (i + 1)).trans (heap_setCell_other W ⟨g, i, none⟩ k v hn)
theorem Big.put (h : Big W g t n) (k : Nat) (cs : Array Value) : Big (putB W k cs) g t n := by
  obtain ⟨ds, h, e⟩ := h
  by_cases hk : g = k
  · subst hk
    obtain ⟨es, h2, e2⟩ := set_blk cs.toList W 0 ds h
    exact ⟨es, h2, e2.trans e⟩
  · exact ⟨ds, (set_apart hk cs.toList W 0).trans h, e⟩
theorem Blk.put (h : Blk W g t ds) (hn : ¬ g = k) (cs : Array Value) : Blk (putB W k cs) g t ds := (set_apart hn cs.toList W 0).trans h
theorem Big.same (h : Big W g t n) (cs : Array Value) (hn : cs.size = n) : Blk (putB W g cs) g t cs := by
  have ht := h.there
  obtain ⟨ds, h0, e⟩ := h
  obtain ⟨es, h2, e2⟩ := set_blk cs.toList W 0 ds h0
  have hr := World.rangeAt_setCells_same W g 0 cs.toList (by rw [Array.length_toList, hn]; exact ht)
  have : es = cs := by
    refine Array.ext (by omega) fun j h1 h3 => ?_
    have h4 := hr j cs[j] (by simp [h3])
    rw [Nat.zero_add] at h4
    have h5 := Blk.cell (W := putB W g cs) h2 j
    rw [show (putB W g cs).cell? ⟨g, j, none⟩ = some cs[j] from h4, Array.getElem?_eq_getElem h1] at h5
    exact (Option.some.inj h5).symm
  rw [← this]; rw [this]; rw [this] at h2; exact h2
theorem g_put {a b : World} (h : Below a.heap.size a b) (hp : a.heap.size ≤ g) (cs : Array Value) : Below a.heap.size a (putB b g cs) := by
  unfold putB
  generalize cs.toList = l
  suffices H : ∀ (l : List Value) (i : Nat) (b : World), Below a.heap.size a b → Below a.heap.size a (b.setCells g i l) from H l 0 b h
  intro l
  induction l with
  | nil => exact fun i b h => h
  | cons v r ih => intro i b h; exact ih (i + 1) _ (g_set h (p := ⟨g, i, none⟩) hp v)
theorem put_cell (hn : ¬ k = g) (i : Nat) (cs : Array Value) : (putB W g cs).cell? ⟨k, i, none⟩ = W.cell? ⟨k, i, none⟩ := by
  unfold putB; exact World.cell?_setCells_out g _ 0 W _ (fun e _ => absurd e hn)
end
theorem storeVar_chg (p : Addr) (v : Value) : storeVar 49 p v = stB 49 p v := rfl
theorem run_chg {W : World} {g : Nat} (h : Big W g 49 7) (a b c d e f : ByteArray) (x : Bool) :
    (stB 49 ⟨g, 0, none⟩ (.agg #[.string a, .string b, .string c, .string d, .string e, .string f, .bool x])).run Try.prog W = .ok () (putB W g #[.string a, .string b, .string c, .string d, .string e, .string f, .bool x]) :=
  run_storeVar_mid W g 0 49 #[.string a, .string b, .string c, .string d, .string e, .string f, .bool x] h.there (by kernel_rfl) (by simp [Value.oneCell'])
end Go.Proofs.Ytfgjeflhhfjgeaa.DT
namespace Go.Proofs.Ytfgjeflhhfjgeaa.DT
open Go.RowKit Go.Deep

theorem mem_nx {l : List Tup} {k x : Tup} {d : Bool} : x ∈ nx l k d ↔ (if d = true then x ∈ l ∧ x ≠ k else x = k ∨ x ∈ l) := by
  unfold nx
  cases d
  · rw [if_neg Bool.noConfusion, if_neg Bool.noConfusion]; exact put1_mem k x l
  · rw [if_pos rfl, if_pos rfl]; exact Tr.mem_del
theorem nx_comm {l : List Tup} (hl : Asc cmpT l) {t u : Tup} (d k : Bool) (h : t ≠ u) : nx (nx l t d) u k = nx (nx l u k) t d := by
  refine Asc.uniq tot (nx_asc (nx_asc hl _ _) _ _) (nx_asc (nx_asc hl _ _) _ _) fun x => ?_
  rw [mem_nx, mem_nx, mem_nx, mem_nx]
  cases d <;> cases k <;> simp only [Bool.false_eq_true, if_false, if_true]
  · exact ⟨fun e => e.elim (fun e => .inr (.inl e)) (fun e => e.elim .inl (fun e => .inr (.inr e))), fun e => e.elim (fun e => .inr (.inl e)) (fun e => e.elim .inl (fun e => .inr (.inr e)))⟩
  · exact ⟨fun e => e.1.elim .inl (fun h => .inr ⟨h, e.2⟩), fun e => e.elim (fun e => ⟨.inl e, fun e2 => h (e.symm.trans e2)⟩) (fun e => ⟨.inr e.1, e.2⟩)⟩
  · exact ⟨fun e => e.elim (fun e => ⟨.inl e, fun e2 => h (e2.symm.trans e)⟩) (fun e => ⟨.inr e.1, e.2⟩), fun e => e.1.elim .inl (fun h => .inr ⟨h, e.2⟩)⟩
  · exact ⟨fun e => ⟨⟨e.1.1, e.2⟩, e.1.2⟩, fun e => ⟨⟨e.1.1, e.2⟩, e.1.2⟩⟩
theorem of_s {w : World} (A : Option Addr) (l : List Tup) (c : Nat) (hR : Row w A l) (hv : ∀ t ∈ l, okT t = true) (ha : Asc cmpT l) (hn : l.length ≤ 50) :
    Calls Try.prog 7 #[.slice A l.length c] w (GivesS w (l, 0)) := by
  have q := of_l A l c hR (fun t ht => ok_fits (hv t ht)) (Nat.le_trans hn (by decide))
  have e : ofF [] l = (srt cmpT l, 0) := ofF_srt _ _ (by simp; omega) hv
  rw [e, srt_self tot ha] at q; exact q
theorem Blk.two {W : World} {g : Nat} {t : TypeId} {x y : Value} (h : Blk W g t #[x, y]) : W.cell? ⟨g, 0, none⟩ = some x ∧ W.cell? ⟨g, 1, none⟩ = some y := ⟨(h.cell 0).trans rfl, (h.cell 1).trans rfl⟩
theorem Blk.seven {W : World} {g : Nat} {ty : TypeId} {t : Tup} {d : Bool} (h : Blk W g ty #[.string t.a, .string t.b, .string t.c, .string t.d, .string t.e, .string t.f, .bool d]) : W.cell? ⟨g, 0, none⟩ = some (.string t.a) ∧ W.cell? ⟨g, 1, none⟩ = some (.string t.b) ∧ W.cell? ⟨g, 2, none⟩ = some (.string t.c) ∧ W.cell? ⟨g, 3, none⟩ = some (.string t.d) ∧ W.cell? ⟨g, 4, none⟩ = some (.string t.e) ∧ W.cell? ⟨g, 5, none⟩ = some (.string t.f) ∧ W.cell? ⟨g, 6, none⟩ = some (.bool d) :=
  ⟨(h.cell 0).trans rfl, (h.cell 1).trans rfl, (h.cell 2).trans rfl, (h.cell 3).trans rfl, (h.cell 4).trans rfl, (h.cell 5).trans rfl, (h.cell 6).trans rfl⟩
/-- the law's set, and its two changes -/
structure OS (W : World) (b g g' : Nat) (ov : Value) (T : Tr) (L : List Tup) (t u : Tup) (d k : Bool) : Prop where
  s : Blk W b 35 #[ov, .pointer T.ad]
  c : Blk W g 49 #[.string t.a, .string t.b, .string t.c, .string t.d, .string t.e, .string t.f, .bool d]
  e : Blk W g' 49 #[.string u.a, .string u.b, .string u.c, .string u.d, .string u.e, .string u.f, .bool k]
  m : MapL W ov T L
theorem OS.below {W x : World} {b g g' : Nat} {ov : Value} {T : Tr} {L : List Tup} {t u : Tup} {d k : Bool} (h : OS W b g g' ov T L t u d k) (hb : Below W.heap.size W x) : OS x b g g' ov T L t u d k :=
  ⟨h.s.below hb, h.c.below hb, h.e.below hb, h.m.below hb⟩
theorem run_neqT (x y : Tup) (z : Bool) (h : decide (x = y) = z) (w : World) : (Go.binOp BinOp.neq 47 (.agg #[.string x.a, .string x.b, .string x.c, .string x.d, .string x.e, .string x.f]) (.agg #[.string y.a, .string y.b, .string y.c, .string y.d, .string y.e, .string y.f])).run Try.prog w = .ok (.bool (!z)) w := by
  have he := eqTup x y w
  rw [h] at he
  simp only [val] at he
  rw [run_neq_struct, he]; rfl
/-- a slice that may be written over -/
def WS (w0 w : World) (A : Option Addr) (n : Nat) : Prop := n ≤ 100 ∧ (n ≠ 0 → ∃ b o, A = some ⟨b, o, none⟩ ∧ w0.heap.size ≤ b ∧ b < w.heap.size ∧ ∀ i, i < n * 6 → (w.cell? ⟨b, o + i, none⟩).isSome = true ∧ w.frozen? ⟨b, o + i, none⟩ = false)
theorem WS.of {w0 w w' : World} {A : Option Addr} {l : List Tup} (hR : Row w' A l) (hF : Frs w w' A) (hn : l.length ≤ 100) (h0 : w0.heap.size ≤ w.heap.size) : WS w0 w' A l.length := by
  refine ⟨hn, fun hl => ?_⟩
  obtain ⟨b, o, e, hb, hL⟩ := hR (fun e => hl (by rw [e]; rfl))
  obtain ⟨h1, h2⟩ := hF _ e
  refine ⟨b, o, e, Nat.le_trans h0 h1, hb, fun i hi => ⟨?_, h2 _⟩⟩
  have hi6 : i / 6 < l.length := Nat.div_lt_of_lt_mul (by omega)
  obtain ⟨v, hv⟩ : ∃ v, (enc l[i / 6])[i % 6]? = some v := ⟨_, List.getElem?_eq_getElem (show i % 6 < 6 from Nat.mod_lt _ (by decide))⟩
  have := hL (i / 6) hi6 (i % 6) v hv
  rw [show o + i / 6 * 6 + i % 6 = o + i by omega] at this
  rw [this]; rfl
theorem WS.below {w0 w w' : World} {A : Option Addr} {n : Nat} (h : WS w0 w A n) (hb : Below w.heap.size w w') : WS w0 w' A n := by
  refine ⟨h.1, fun hl => ?_⟩
  obtain ⟨b, o, e, h1, h2, h3⟩ := h.2 hl
  refine ⟨b, o, e, h1, Nat.lt_of_lt_of_le h2 hb.size, fun i hi => ?_⟩
  have hc := hb.cell (p := ⟨b, o + i, none⟩) h2
  rw [hc, World.frozen?_of_block (hb.block b h2)]
  exact h3 i hi
theorem WS.set {w0 w : World} {A : Option Addr} {n : Nat} (h : WS w0 w A n) (p : Addr) (v : Value) : WS w0 (w.setCell p v) A n := by
  refine ⟨h.1, fun hl => ?_⟩
  obtain ⟨b, o, e, h1, h2, h3⟩ := h.2 hl
  refine ⟨b, o, e, h1, by simpa using h2, fun i hi => ?_⟩
  obtain ⟨h4, h5⟩ := h3 i hi
  refine ⟨?_, by simpa using h5⟩
  by_cases hp : p = ⟨b, o + i, none⟩
  · subst hp
    obtain ⟨x, hx⟩ := some_of h4
    rw [World.cell?_setCell_same w _ v hx]; rfl
  · rw [World.cell?_setCell_other w _ _ v hp]; exact h4
theorem match_all {w : World} {ov : Value} {T : Tr} {l : List Tup} (h : SetL w ov T l) :
    Calls Try.prog 21 #[.agg #[ov, .pointer T.ad], .agg #[.string ⟨#[]⟩, .string ⟨#[]⟩, .string ⟨#[]⟩, .string ⟨#[]⟩, .string ⟨#[]⟩, .string ⟨#[]⟩, .bool false]] w (GivesN w (mtc ⟨⟨#[]⟩, ⟨#[]⟩, ⟨#[]⟩, ⟨#[]⟩, ⟨#[]⟩, ⟨#[]⟩, false⟩ l)) :=
  match_n ⟨⟨#[]⟩, ⟨#[]⟩, ⟨#[]⟩, ⟨#[]⟩, ⟨#[]⟩, ⟨#[]⟩, false⟩ h ⟨Nat.zero_le _, Nat.zero_le _, Nat.zero_le _, Nat.zero_le _, Nat.zero_le _, Nat.zero_le _⟩
theorem mtc_len (f : Fil) (l : List Tup) : (mtc f l).length ≤ l.length := by
  unfold mtc; split
  · exact List.length_filter_le _ _
  · exact Nat.zero_le _
theorem kp8 {a b : World} {p0 p1 p2 p3 p4 p5 p6 p7 o0 o1 o2 o3 o4 o5 o6 o7 : Nat} {x0 x1 x2 x3 x4 x5 x6 x7 : Value} (h : Below a.heap.size a b)
    (s : a.cell? ⟨p0, o0, none⟩ = some x0 ∧ a.cell? ⟨p1, o1, none⟩ = some x1 ∧ a.cell? ⟨p2, o2, none⟩ = some x2 ∧ a.cell? ⟨p3, o3, none⟩ = some x3 ∧ a.cell? ⟨p4, o4, none⟩ = some x4 ∧ a.cell? ⟨p5, o5, none⟩ = some x5 ∧ a.cell? ⟨p6, o6, none⟩ = some x6 ∧ a.cell? ⟨p7, o7, none⟩ = some x7) :
    b.cell? ⟨p0, o0, none⟩ = some x0 ∧ b.cell? ⟨p1, o1, none⟩ = some x1 ∧ b.cell? ⟨p2, o2, none⟩ = some x2 ∧ b.cell? ⟨p3, o3, none⟩ = some x3 ∧ b.cell? ⟨p4, o4, none⟩ = some x4 ∧ b.cell? ⟨p5, o5, none⟩ = some x5 ∧ b.cell? ⟨p6, o6, none⟩ = some x6 ∧ b.cell? ⟨p7, o7, none⟩ = some x7 :=
  ⟨keep1 h s.1, keep1 h s.2.1, keep1 h s.2.2.1, keep1 h s.2.2.2.1, keep1 h s.2.2.2.2.1, keep1 h s.2.2.2.2.2.1, keep1 h s.2.2.2.2.2.2.1, keep1 h s.2.2.2.2.2.2.2⟩
theorem big_new (W : World) : Big (W.alloc (.cells #[.string ⟨#[]⟩, .string ⟨#[]⟩, .string ⟨#[]⟩, .string ⟨#[]⟩, .string ⟨#[]⟩, .string ⟨#[]⟩, .bool false] 49 (0, 0))) W.heap.size 49 7 := (Blk.new W _ _).big
theorem big_new1 (W : World) (o : Obj) : Big ((W.alloc o).alloc (.cells #[.string ⟨#[]⟩, .string ⟨#[]⟩, .string ⟨#[]⟩, .string ⟨#[]⟩, .string ⟨#[]⟩, .string ⟨#[]⟩, .bool false] 49 (0, 0))) (W.heap.size + 1) 49 7 := (Blk.new1 W o _ _).big
theorem big_newo (W : World) (o : Obj) : Big ((W.alloc (.cells #[.string ⟨#[]⟩, .string ⟨#[]⟩, .string ⟨#[]⟩, .string ⟨#[]⟩, .string ⟨#[]⟩, .string ⟨#[]⟩, .bool false] 49 (0, 0))).alloc o) W.heap.size 49 7 := (big_new W).old o
theorem putB_size (W : World) (g : Nat) (cs : Array Value) : (putB W g cs).heap.size = W.heap.size := by
  unfold putB
  generalize cs.toList = l
  suffices H : ∀ (l : List Value) (i : Nat) (W : World), (W.setCells g i l).heap.size = W.heap.size from H l 0 W
  intro l
  induction l with
  | nil => exact fun i W => rfl
  | cons v r ih => exact fun i W => (ih (i + 1) _).trans (by simp)
theorem end_a {w X : World} {g g' : Nat} {t u : Tup} {d k : Bool} (hX : Below w.heap.size w X) (h1 : Big X g 49 7) (h2 : Big X g' 49 7) (hne : ¬ g = g') (hg : w.heap.size ≤ g) (hg' : w.heap.size ≤ g') :
    ∃ p p', Value.pointer (some ⟨g, 0, none⟩) = Value.pointer (some ⟨p, 0, none⟩) ∧ Value.pointer (some ⟨g', 0, none⟩) = Value.pointer (some ⟨p', 0, none⟩) ∧ ¬ p = p' ∧ w.heap.size ≤ p ∧ w.heap.size ≤ p' ∧ Blk (putB (putB X g #[.string t.a, .string t.b, .string t.c, .string t.d, .string t.e, .string t.f, .bool d]) g' #[.string u.a, .string u.b, .string u.c, .string u.d, .string u.e, .string u.f, .bool k]) p 49 #[.string t.a, .string t.b, .string t.c, .string t.d, .string t.e, .string t.f, .bool d] ∧ Blk (putB (putB X g #[.string t.a, .string t.b, .string t.c, .string t.d, .string t.e, .string t.f, .bool d]) g' #[.string u.a, .string u.b, .string u.c, .string u.d, .string u.e, .string u.f, .bool k]) p' 49 #[.string u.a, .string u.b, .string u.c, .string u.d, .string u.e, .string u.f, .bool k] ∧ Below w.heap.size w (putB (putB X g #[.string t.a, .string t.b, .string t.c, .string t.d, .string t.e, .string t.f, .bool d]) g' #[.string u.a, .string u.b, .string u.c, .string u.d, .string u.e, .string u.f, .bool k]) :=
  ⟨g, g', rfl, rfl, hne, hg, hg', Blk.put (Big.same h1 _ rfl) hne _, Big.same (Big.put h2 _ _) _ rfl, g_put (g_put hX hg _) hg' _⟩
theorem end_b {w X : World} {g : Nat} {t u : Tup} {d k : Bool} (hX : Below w.heap.size w X) (h1 : Big X g 49 7) (hg : w.heap.size ≤ g) :
    ∃ p p', Value.pointer (some ⟨g, 0, none⟩) = Value.pointer (some ⟨p, 0, none⟩) ∧ Value.pointer (some ⟨(putB X g #[.string t.a, .string t.b, .string t.c, .string t.d, .string t.e, .string t.f, .bool d]).heap.size, 0, none⟩) = Value.pointer (some ⟨p', 0, none⟩) ∧ ¬ p = p' ∧ w.heap.size ≤ p ∧ w.heap.size ≤ p' ∧ Blk (putB ((putB X g #[.string t.a, .string t.b, .string t.c, .string t.d, .string t.e, .string t.f, .bool d]).alloc (.cells #[.string ⟨#[]⟩, .string ⟨#[]⟩, .string ⟨#[]⟩, .string ⟨#[]⟩, .string ⟨#[]⟩, .string ⟨#[]⟩, .bool false] 49 (0, 0))) (putB X g #[.string t.a, .string t.b, .string t.c, .string t.d, .string t.e, .string t.f, .bool d]).heap.size #[.string u.a, .string u.b, .string u.c, .string u.d, .string u.e, .string u.f, .bool k]) p 49 #[.string t.a, .string t.b, .string t.c, .string t.d, .string t.e, .string t.f, .bool d] ∧ Blk (putB ((putB X g #[.string t.a, .string t.b, .string t.c, .string t.d, .string t.e, .string t.f, .bool d]).alloc (.cells #[.string ⟨#[]⟩, .string ⟨#[]⟩, .string ⟨#[]⟩, .string ⟨#[]⟩, .string ⟨#[]⟩, .string ⟨#[]⟩, .bool false] 49 (0, 0))) (putB X g #[.string t.a, .string t.b, .string t.c, .string t.d, .string t.e, .string t.f, .bool d]).heap.size #[.string u.a, .string u.b, .string u.c, .string u.d, .string u.e, .string u.f, .bool k]) p' 49 #[.string u.a, .string u.b, .string u.c, .string u.d, .string u.e, .string u.f, .bool k] ∧ Below w.heap.size w (putB ((putB X g #[.string t.a, .string t.b, .string t.c, .string t.d, .string t.e, .string t.f, .bool d]).alloc (.cells #[.string ⟨#[]⟩, .string ⟨#[]⟩, .string ⟨#[]⟩, .string ⟨#[]⟩, .string ⟨#[]⟩, .string ⟨#[]⟩, .bool false] 49 (0, 0))) (putB X g #[.string t.a, .string t.b, .string t.c, .string t.d, .string t.e, .string t.f, .bool d]).heap.size #[.string u.a, .string u.b, .string u.c, .string u.d, .string u.e, .string u.f, .bool k]) := by
  have hb := Big.same h1 #[.string t.a, .string t.b, .string t.c, .string t.d, .string t.e, .string t.f, .bool d] rfl
  have hl := hb.lt
  have hz : w.heap.size ≤ (putB X g #[.string t.a, .string t.b, .string t.c, .string t.d, .string t.e, .string t.f, .bool d]).heap.size := by rw [putB_size]; exact hX.size
  exact ⟨g, _, rfl, rfl, by omega, hg, hz, Blk.put (Blk.old hb _) (by omega) _, Big.same (big_new _) _ rfl, g_put (g_alloc (g_put hX hg _) _) hz _⟩
theorem z_one {W x : World} (h : Below (W.alloc (.cells #[.string ⟨#[]⟩, .string ⟨#[]⟩, .string ⟨#[]⟩, .string ⟨#[]⟩, .string ⟨#[]⟩, .string ⟨#[]⟩, .bool false] 49 (0, 0))).heap.size (W.alloc (.cells #[.string ⟨#[]⟩, .string ⟨#[]⟩, .string ⟨#[]⟩, .string ⟨#[]⟩, .string ⟨#[]⟩, .string ⟨#[]⟩, .bool false] 49 (0, 0))) x) : Big x W.heap.size 49 7 := (big_new W).below h
theorem z_oned {W x : World} (h : Below (W.alloc (.cells #[.string ⟨#[]⟩, .string ⟨#[]⟩, .string ⟨#[]⟩, .string ⟨#[]⟩, .string ⟨#[]⟩, .string ⟨#[]⟩, .bool false] 49 (0, 0))).drew.heap.size (W.alloc (.cells #[.string ⟨#[]⟩, .string ⟨#[]⟩, .string ⟨#[]⟩, .string ⟨#[]⟩, .string ⟨#[]⟩, .string ⟨#[]⟩, .bool false] 49 (0, 0))).drew x) : Big x W.heap.size 49 7 := Big.below (W := (W.alloc (.cells #[.string ⟨#[]⟩, .string ⟨#[]⟩, .string ⟨#[]⟩, .string ⟨#[]⟩, .string ⟨#[]⟩, .string ⟨#[]⟩, .bool false] 49 (0, 0))).drew) (big_new W) h
theorem z_two {W x : World} (h : Below ((W.alloc (.cells #[.string ⟨#[]⟩, .string ⟨#[]⟩, .string ⟨#[]⟩, .string ⟨#[]⟩, .string ⟨#[]⟩, .string ⟨#[]⟩, .bool false] 49 (0, 0))).alloc (.cells #[.string ⟨#[]⟩, .string ⟨#[]⟩, .string ⟨#[]⟩, .string ⟨#[]⟩, .string ⟨#[]⟩, .string ⟨#[]⟩, .bool false] 49 (0, 0))).heap.size ((W.alloc (.cells #[.string ⟨#[]⟩, .string ⟨#[]⟩, .string ⟨#[]⟩, .string ⟨#[]⟩, .string ⟨#[]⟩, .string ⟨#[]⟩, .bool false] 49 (0, 0))).alloc (.cells #[.string ⟨#[]⟩, .string ⟨#[]⟩, .string ⟨#[]⟩, .string ⟨#[]⟩, .string ⟨#[]⟩, .string ⟨#[]⟩, .bool false] 49 (0, 0))) x) : Big x W.heap.size 49 7 ∧ Big x (W.heap.size + 1) 49 7 := ⟨((big_new W).old _).below h, (big_new1 W _).below h⟩
theorem z_twod {W x : World} (h : Below ((W.alloc (.cells #[.string ⟨#[]⟩, .string ⟨#[]⟩, .string ⟨#[]⟩, .string ⟨#[]⟩, .string ⟨#[]⟩, .string ⟨#[]⟩, .bool false] 49 (0, 0))).alloc (.cells #[.string ⟨#[]⟩, .string ⟨#[]⟩, .string ⟨#[]⟩, .string ⟨#[]⟩, .string ⟨#[]⟩, .string ⟨#[]⟩, .bool false] 49 (0, 0))).drew.heap.size ((W.alloc (.cells #[.string ⟨#[]⟩, .string ⟨#[]⟩, .string ⟨#[]⟩, .string ⟨#[]⟩, .string ⟨#[]⟩, .string ⟨#[]⟩, .bool false] 49 (0, 0))).alloc (.cells #[.string ⟨#[]⟩, .string ⟨#[]⟩, .string ⟨#[]⟩, .string ⟨#[]⟩, .string ⟨#[]⟩, .string ⟨#[]⟩, .bool false] 49 (0, 0))).drew x) : Big x W.heap.size 49 7 ∧ Big x (W.heap.size + 1) 49 7 := ⟨Big.below (W := ((W.alloc (.cells #[.string ⟨#[]⟩, .string ⟨#[]⟩, .string ⟨#[]⟩, .string ⟨#[]⟩, .string ⟨#[]⟩, .string ⟨#[]⟩, .bool false] 49 (0, 0))).alloc (.cells #[.string ⟨#[]⟩, .string ⟨#[]⟩, .string ⟨#[]⟩, .string ⟨#[]⟩, .string ⟨#[]⟩, .string ⟨#[]⟩, .bool false] 49 (0, 0))).drew) ((big_new W).old _) h, Big.below (W := ((W.alloc (.cells #[.string ⟨#[]⟩, .string ⟨#[]⟩, .string ⟨#[]⟩, .string ⟨#[]⟩, .string ⟨#[]⟩, .string ⟨#[]⟩, .bool false] 49 (0, 0))).alloc (.cells #[.string ⟨#[]⟩, .string ⟨#[]⟩, .string ⟨#[]⟩, .string ⟨#[]⟩, .string ⟨#[]⟩, .string ⟨#[]⟩, .bool false] 49 (0, 0))).drew) (big_new1 W _) h⟩
theorem keep6p {W : World} {p q g : Nat} {cs : Array Value} {x0 x1 x2 y0 y1 y2 : Value} (h1 : ¬ p = g) (h2 : ¬ q = g)
    (s : W.cell? ⟨p, 0, none⟩ = some x0 ∧ W.cell? ⟨p, 1, none⟩ = some x1 ∧ W.cell? ⟨p, 2, none⟩ = some x2 ∧ W.cell? ⟨q, 0, none⟩ = some y0 ∧ W.cell? ⟨q, 1, none⟩ = some y1 ∧ W.cell? ⟨q, 2, none⟩ = some y2) :
    (putB W g cs).cell? ⟨p, 0, none⟩ = some x0 ∧ (putB W g cs).cell? ⟨p, 1, none⟩ = some x1 ∧ (putB W g cs).cell? ⟨p, 2, none⟩ = some x2 ∧ (putB W g cs).cell? ⟨q, 0, none⟩ = some y0 ∧ (putB W g cs).cell? ⟨q, 1, none⟩ = some y1 ∧ (putB W g cs).cell? ⟨q, 2, none⟩ = some y2 :=
  ⟨(put_cell h1 _ _).trans s.1, (put_cell h1 _ _).trans s.2.1, (put_cell h1 _ _).trans s.2.2.1, (put_cell h2 _ _).trans s.2.2.2.1, (put_cell h2 _ _).trans s.2.2.2.2.1, (put_cell h2 _ _).trans s.2.2.2.2.2⟩
attribute [local go_sem ↓] storeVar_chg
attribute [local go_sem] big_new big_new1 big_newo
attribute [local go_sem] run_chg Big.old Big.put Big.drew
set_option maxRecDepth 20000 in
set_option maxHeartbeats 8000000 in
theorem order_walk (A : Option Addr) (x : List (Nat × Nat)) (c : Nat) (B : Option Addr) (y : List (Nat × Nat × Nat)) (c2 : Nat) (a0 a1 a2 b0 b1 b2 : Nat) (w : World) (hR : RowN w A x) (hx : x.length ≤ maxLen) (hM : RowM w B y) (hy : y.length ≤ maxLen)
    (ha0 : a0 < 256) (ha1 : a1 < 256) (ha2 : a2 < 256) (hb0 : b0 < 256) (hb1 : b1 < 256) (hb2 : b2 < 256) :
    Calls Try.prog 4 #[.agg #[.slice A x.length c, .slice B y.length c2], .agg #[.int .u8 a0, .int .u8 a1, .int .u8 a2], .agg #[.int .u8 b0, .int .u8 b1, .int .u8 b2]] w fun e w' => e = .returned (.bool true) ∧ Below w.heap.size w w' := by
  obtain ⟨A1, hA1⟩ : ∃ A1, (((w.alloc (.cells #[.slice A x.length c, .slice B y.length c2] 27 (0, 0))).alloc (.cells #[.int .u8 a0, .int .u8 a1, .int .u8 a2] 51 (0, 0))).alloc (.cells #[.int .u8 b0, .int .u8 b1, .int .u8 b2] 51 (0, 0))) = A1 := ⟨_, rfl⟩
  have hA : Below w.heap.size w A1 := by rw [← hA1]; exact g_alloc (g_alloc (g_alloc g_refl _) _) _
  have hM8 : A1.cell? ⟨w.heap.size + 1, 0, none⟩ = some (.int .u8 a0) ∧ A1.cell? ⟨w.heap.size + 1, 1, none⟩ = some (.int .u8 a1) ∧ A1.cell? ⟨w.heap.size + 1, 2, none⟩ = some (.int .u8 a2) ∧ A1.cell? ⟨w.heap.size + 1 + 1, 0, none⟩ = some (.int .u8 b0) ∧ A1.cell? ⟨w.heap.size + 1 + 1, 1, none⟩ = some (.int .u8 b1) ∧ A1.cell? ⟨w.heap.size + 1 + 1, 2, none⟩ = some (.int .u8 b2) := by
    have n1 := new_at (w.alloc (.cells #[.slice A x.length c, .slice B y.length c2] 27 (0, 0))) (.cells #[.int .u8 a0, .int .u8 a1, .int .u8 a2] 51 (0, 0))
    rw [show (w.alloc (.cells #[.slice A x.length c, .slice B y.length c2] 27 (0, 0))).heap.size = w.heap.size + 1 by simp] at n1
    have n2 := new_old (o := (.cells #[.int .u8 b0, .int .u8 b1, .int .u8 b2] 51 (0, 0))) n1
    have n3 := new_at ((w.alloc (.cells #[.slice A x.length c, .slice B y.length c2] 27 (0, 0))).alloc (.cells #[.int .u8 a0, .int .u8 a1, .int .u8 a2] 51 (0, 0))) (.cells #[.int .u8 b0, .int .u8 b1, .int .u8 b2] 51 (0, 0))
    rw [show ((w.alloc (.cells #[.slice A x.length c, .slice B y.length c2] 27 (0, 0))).alloc (.cells #[.int .u8 a0, .int .u8 a1, .int .u8 a2] 51 (0, 0))).heap.size = w.heap.size + 1 + 1 by simp] at n3
    rw [hA1] at n2 n3
    have c2 := fun j => box_cell n2 j
    have c3 := fun j => box_cell n3 j
    exact ⟨(c2 0).trans rfl, (c2 1).trans rfl, (c2 2).trans rfl, (c3 0).trans rfl, (c3 1).trans rfl, (c3 2).trans rfl⟩
  have HS := hid (sof_any A x c B y c2 A1 (hR.below hA) hx (hM.below hA) hy)
  have HA := hid hA
  have HC := hid hM8
  obtain ⟨t, ht⟩ : ∃ t, one a0 a1 = t := ⟨_, rfl⟩
  obtain ⟨d, hd⟩ : ∃ d, decide (a2 % 2 = 1) = d := ⟨_, rfl⟩
  obtain ⟨u, hu⟩ : ∃ u, one b0 b1 = u := ⟨_, rfl⟩
  obtain ⟨k, hk⟩ : ∃ k, decide (b2 % 2 = 1) = k := ⟨_, rfl⟩
  have HT : Hid (okT t = true) := hid (by rw [← ht]; exact one_ok _ _)
  have HU : Hid (okT u = true) := hid (by rw [← hu]; exact one_ok _ _)
  have HC1 := hid (fun W => change_any a0 a1 a2 W ha0 ha1 ha2 t ht d hd)
  have HC2 := hid (fun W => change_any b0 b1 b2 W hb0 hb1 hb2 u hu k hk)
  clear hA hM8 ht hd hu hk hR hx hM hy
  subst hA1
  go_enter Try.func4, Try.ntmps4
  go_wp2_with fail
  generalize hq : w.heap.size = q at *
  have HQ := hid hq
  generalize hA2 : (((w.alloc (.cells #[.slice A x.length c, .slice B y.length c2] 27 (0, 0))).alloc (.cells #[.int .u8 a0, .int .u8 a1, .int .u8 a2] 51 (0, 0))).alloc (.cells #[.int .u8 b0, .int .u8 b1, .int .u8 b2] 51 (0, 0))) = A1 at *
  clear hq
  refine HS.out.mono ?_
  rintro _ w1 ⟨⟨D, L, cD, rfl, hRD, hok, hasc, hlen⟩, hb1⟩
  have HRD := hid hRD
  have HOK := hid hok
  have HASC := hid hasc
  have HLEN := hid hlen
  have HB1 := hid hb1
  clear hRD hok hasc hlen hb1 HS hA2
  go_wp2_with fail
  refine (of_s D L cD HRD.out HOK.out HASC.out HLEN.out).mono ?_
  rintro _ w2 ⟨ov, T, rfl, hL2, hb2⟩
  have HL2 := hid hL2
  have hst := store_ov hL2.ovs
  have hB2 := g_trans HB1.out hb2
  have HB2 := hid hB2
  have HC2' := hid (keep6 hB2 HC.out)
  have HRD2 := hid (HRD.out.below hb2)
  clear hL2 hb2 hB2 HC HRD HB1
  obtain ⟨c0, c1, c2, c3, c4, c5⟩ := HC2'.out
  go_wp2_with fail
  clear c0 c1 c2 c3 c4 c5 hst
  obtain ⟨w3, hw3⟩ : ∃ w3, w2.alloc (.cells #[ov, .pointer T.ad] 35 (0, 0)) = w3 := ⟨_, rfl⟩
  have hs3 : w3.heap[w2.heap.size]? = some (.cells #[ov, .pointer T.ad] 35 (0, 0)) := by rw [← hw3]; exact new_at _ _
  have hb3 : Below w2.heap.size w2 w3 := by rw [← hw3]; exact g_alloc g_refl _
  have hz3 : w3.heap.size = w2.heap.size + 1 := by rw [← hw3]; simp
  rw [hw3]
  generalize hb : w2.heap.size = b3 at *
  have HBS := hid hb
  clear hb hw3
  have HL3 := hid (HL2.out.below (by rw [HBS.out]; exact hb3))
  have HZ3 := hid hz3
  have HS3 := hid hs3
  have h6 := keep6 (show Below w2.heap.size w2 w3 by rw [HBS.out]; exact hb3) HC2'.out
  have HB3 := hid (g_trans HB2.out (show Below w2.heap.size w2 w3 by rw [HBS.out]; exact hb3))
  have HRD3 := hid (HRD2.out.below (show Below w2.heap.size w2 w3 by rw [HBS.out]; exact hb3))
  have HQ3 : Hid (q + 1 + 1 < w3.heap.size) := hid (World.block_lt_of_cell? _ _ h6.2.2.2.1)
  clear hb3 hz3 hs3 HB2 HL2 HC2' HRD2
  go_cut [10, 11] (fun s s' wx => ∃ g g', s = .pointer (some ⟨g, 0, none⟩) ∧ s' = .pointer (some ⟨g', 0, none⟩) ∧ ¬ g = g' ∧ w3.heap.size ≤ g ∧ w3.heap.size ≤ g' ∧ Blk wx g 49 #[.string t.a, .string t.b, .string t.c, .string t.d, .string t.e, .string t.f, .bool d] ∧ Blk wx g' 49 #[.string u.a, .string u.b, .string u.c, .string u.d, .string u.e, .string u.f, .bool k] ∧ Below w3.heap.size w3 wx)
  case first =>
    --[r3
    have hS := keep6 (g_drew (g_refl (a := w3))) h6
    have hq3 : q + 1 + 1 < w3.heap.size := HQ3.out
    clear h6 HL3 HS3 HB3 HRD3 HOK HASC HLEN HBS HZ3 HA HQ HT HU HQ3
    go_region_held3 (fun w' => w'.cell? ⟨q + 1, 0, none⟩ = some (.int .u8 a0) ∧ w'.cell? ⟨q + 1, 1, none⟩ = some (.int .u8 a1) ∧ w'.cell? ⟨q + 1, 2, none⟩ = some (.int .u8 a2) ∧ w'.cell? ⟨q + 1 + 1, 0, none⟩ = some (.int .u8 b0) ∧ w'.cell? ⟨q + 1 + 1, 1, none⟩ = some (.int .u8 b1) ∧ w'.cell? ⟨q + 1 + 1, 2, none⟩ = some (.int .u8 b2))
      (first | with_reducible assumption | (with_reducible refine keep6p ?_ ?_ (by with_reducible assumption) <;> omega) | with_reducible exact keep6 (g_alloc g_refl _) (by with_reducible assumption) | with_reducible exact keep6 (by with_reducible assumption) (by with_reducible assumption))
      (first
      | (go_at_call 10; (with_reducible refine Calls.mono (HC1.out _) ?_); rintro _ x1 ⟨rfl, hc1⟩
         (first | (have HB2 := z_twod hc1) | (have HB2 := z_two hc1) | (have HB1 := z_oned hc1) | (have HB1 := z_one hc1) | skip)
         have hz1 := hc1.size; (try simp at hz1); have hz1' : w3.heap.size ≤ x1.heap.size := by omega)
      | (go_at_call 10; (with_reducible refine Calls.mono (HC2.out _) ?_); rintro _ x2 ⟨rfl, hc2⟩
         (first
         | (have hh1 := HB2.1.below hc2; have hh2 := HB2.2.below hc2)
         | (have hh2 := z_one hc2; have hh1 := (HB1.old _).below hc2)
         | (have hh1 := HB1.below hc2)
         | (have hh := z_two hc2; have hh1 := hh.1; have hh2 := hh.2; clear hh)
         | (have hh1 := z_one hc2)
         | skip)
         (try have ho1 := fun o => hh1.old o); (try have ho2 := fun o => hh2.old o)
         have hz2 := hc2.size; (try simp at hz2); have hz2' : x1.heap.size ≤ x2.heap.size := by omega))
    all_goals
      go_wp2_with fail
      go_meet
      (try have hl1 := hh1.lt); (try have hl2 := hh2.lt); (try have hl3 := HB1.lt); (try have hl4 := HB2.1.lt); (try have hl5 := HB2.2.lt)
      first
        | with_reducible refine end_a ?_ ?_ ?_ ?_ ?_ ?_
          · repeat (first | with_reducible exact g_refl | with_reducible refine g_alloc ?_ _ | with_reducible refine g_drew ?_ | with_reducible refine g_trans ?_ hc2 | with_reducible refine g_trans ?_ hc1)
          · repeat (first | (with_reducible assumption) | with_reducible exact big_new _ | with_reducible exact big_new1 _ _ | with_reducible exact big_newo _ _ | with_reducible refine Big.old ?_ _)
          · repeat (first | (with_reducible assumption) | with_reducible exact big_new _ | with_reducible exact big_new1 _ _ | with_reducible exact big_newo _ _ | with_reducible refine Big.old ?_ _)
          · omega
          · omega
          · omega
        | with_reducible refine end_b ?_ ?_ ?_
          · repeat (first | with_reducible exact g_refl | with_reducible refine g_alloc ?_ _ | with_reducible refine g_drew ?_ | with_reducible refine g_trans ?_ hc2 | with_reducible refine g_trans ?_ hc1)
          · repeat (first | (with_reducible assumption) | with_reducible exact big_new _ | with_reducible exact big_new1 _ _ | with_reducible exact big_newo _ _ | with_reducible refine Big.old ?_ _)
          · omega
    --]r3
  case rest =>
    obtain ⟨g, g', rfl, rfl, hgg, hg, hg', hbg, hbg', hb4⟩ := hcut
    clear HC1 HC2 h6 HQ3
    have hos : OS wc b3 g g' ov T L t u d k := ⟨(hb4.block _ (Array.getElem?_eq_some_iff.1 HS3.out).1).trans HS3.out, hbg, hbg', HL3.out.below hb4⟩
    have HOS := hid hos
    have HRD4 := hid (HRD3.out.below hb4)
    have HB4 := hid (g_trans HB3.out hb4)
    obtain ⟨s0, s1⟩ := hos.s.two
    obtain ⟨c0, c1, c2, c3, c4, c5, c6⟩ := hos.c.seven
    clear hbg hbg' hb4 hos hgg hg hg' HS3 HL3 HRD3 HB3
    go_wp2_with fail
    refine (with_x t d HT.out HOS.out.m (by have := HLEN.out; omega)).mono ?_
    rintro _ w5 ⟨o5, T5, rfl, hL5, hb5⟩
    have hst := store_ov hL5.ovs
    have HL5 := hid hL5
    have HB5 := hid hb5
    clear s0 s1 c0 c1 c2 c3 c4 c5 c6
    have hb6 := g_alloc hb5 (.cells #[o5, .pointer T5.ad] 35 (0, 0))
    obtain ⟨s0, s1⟩ := (HOS.out.below hb6).s.two
    obtain ⟨c0, c1, c2, c3, c4, c5, c6⟩ := (HOS.out.below hb6).e.seven
    have HM6 := hid (hL5.below (g_alloc g_refl (.cells #[o5, .pointer T5.ad] 35 (0, 0))))
    have HBM := hid (new_at w5 (.cells #[o5, .pointer T5.ad] 35 (0, 0)))
    have HB6 := hid hb6
    have HN5 := hid (nx_len L t d)
    have hz5 : wc.heap.size ≤ w5.heap.size := hb5.size
    clear hb5 hb6 hL5 HL5 HB5
    go_wp2_with fail
    refine (with_x u k HU.out HM6.out (by have := HLEN.out; have := HN5.out; omega)).mono ?_
    rintro _ w7 ⟨o7, T7, rfl, hL7, hb7⟩
    have hbm := (hb7.block _ (Array.getElem?_eq_some_iff.1 HBM.out).1).trans HBM.out
    have hst7 := store_ov hL7.ovs
    generalize w5.heap.size = b5 at *
    have hb7' := g_trans HB6.out hb7
    obtain ⟨m0, m1⟩ := Blk.two (W := w7) hbm
    have hb8 := g_set (g_set hb7' (p := ⟨b5, 0, none⟩) hz5 o7) (p := ⟨b5, 1, none⟩) hz5 (.pointer T7.ad)
    clear s0 s1 c0 c1 c2 c3 c4 c5 c6
    obtain ⟨s0, s1⟩ := (HOS.out.below hb8).s.two
    obtain ⟨c0, c1, c2, c3, c4, c5, c6⟩ := (HOS.out.below hb8).e.seven
    obtain ⟨f0, f1⟩ : w7.frozen? ⟨b5, 0, none⟩ = false ∧ w7.frozen? ⟨b5, 1, none⟩ = false := by have := res2 hbm g_refl; exact ⟨this.2.2.2.1, this.2.2.2.2⟩
    have HB8 := hid hb8
    have HM8 := hid (hL7.bod (set_two hbm o7 (.pointer T7.ad)) (by decide))
    have HBM8 := hid (set2_heap hbm o7 (.pointer T7.ad))
    have HZ5 := hid hz5
    clear hb8 hb7' hb7 hL7 hbm hz5 HM6 HBM HB6
    go_wp2_with fail
    refine (with_x u k HU.out (HOS.out.below HB8.out).m (by have := HLEN.out; omega)).mono ?_
    rintro _ w9 ⟨o9, T9, rfl, hL9, hb9⟩
    clear s0 s1 c0 c1 c2 c3 c4 c5 c6 m0 m1 f0 f1 hst hst7
    have hst9 := store_ov hL9.ovs
    have HM9 := hid (HM8.out.below hb9)
    have HBM9 := hid ((hb9.block _ (Array.getElem?_eq_some_iff.1 HBM8.out).1).trans HBM8.out)
    have hb9' := g_trans HB8.out hb9
    have hz9 := hb9'.size
    have hb10 := g_alloc hb9' (.cells #[o9, .pointer T9.ad] 35 (0, 0))
    obtain ⟨c0, c1, c2, c3, c4, c5, c6⟩ := (HOS.out.below hb10).c.seven
    have HN10 := hid (hL9.below (g_alloc g_refl (.cells #[o9, .pointer T9.ad] 35 (0, 0))))
    have HBN := hid (new_at w9 (.cells #[o9, .pointer T9.ad] 35 (0, 0)))
    have HM10 := hid (HM9.out.below (g_alloc g_refl (.cells #[o9, .pointer T9.ad] 35 (0, 0))))
    have HBM10 := hid (new_old (o := (.cells #[o9, .pointer T9.ad] 35 (0, 0))) HBM9.out)
    have HB10 := hid hb10
    have HN9 := hid (nx_len L u k)
    have hlt5 : b5 < w9.heap.size := (Array.getElem?_eq_some_iff.1 HBM9.out).1
    have HLT5 := hid hlt5
    clear hb9 hb9' hb10 hL9 HM8 HBM8 HB8 HM9 HBM9 hlt5
    go_wp2_with fail
    refine (with_x t d HT.out HN10.out (by have := HLEN.out; have := HN9.out; omega)).mono ?_
    rintro _ w11 ⟨o11, T11, rfl, hL11, hb11⟩
    have hbn := (hb11.block _ (Array.getElem?_eq_some_iff.1 HBN.out).1).trans HBN.out
    have HM11 := hid (HM10.out.below hb11)
    have HBM11 := hid ((hb11.block _ (Array.getElem?_eq_some_iff.1 HBM10.out).1).trans HBM10.out)
    have hst11 := store_ov hL11.ovs
    have h59 : ¬ b5 = w9.heap.size := by have := HLT5.out; omega
    generalize w9.heap.size = b9 at *
    have hb11' := g_trans HB10.out hb11
    obtain ⟨n0, n1⟩ := Blk.two (W := w11) hbn
    have hb12 := g_set (g_set hb11' (p := ⟨b9, 0, none⟩) hz9 o11) (p := ⟨b9, 1, none⟩) hz9 (.pointer T11.ad)
    obtain ⟨f0, f1⟩ : w11.frozen? ⟨b9, 0, none⟩ = false ∧ w11.frozen? ⟨b9, 1, none⟩ = false := by have := res2 hbn g_refl; exact ⟨this.2.2.2.1, this.2.2.2.2⟩
    have HB12 := hid hb12
    have HN12 := hid (hL11.bod (set_two hbn o11 (.pointer T11.ad)) (by decide))
    have HBN12 := hid (set2_heap hbn o11 (.pointer T11.ad))
    have HM12 := hid (HM11.out.bod (set_two hbn o11 (.pointer T11.ad)) (by decide))
    have HBM12 := hid (set2_other h59 HBM11.out o11 (.pointer T11.ad))
    clear c0 c1 c2 c3 c4 c5 c6 hst9 hb12 hb11' hb11 hL11 hbn HN10 HBN HM10 HBM10 HB10 HM11 HBM11
    obtain ⟨z, hz⟩ : ∃ z, decide (t = u) = z := ⟨_, rfl⟩
    obtain ⟨w12, hw12⟩ : ∃ w12, ((w11.setCell ⟨b9, 0, none⟩ o11).setCell ⟨b9, 1, none⟩ (.pointer T11.ad)) = w12 := ⟨_, rfl⟩
    rw [hw12] at HB12 HN12 HBN12 HM12 HBM12
    have hos := HOS.out.below HB12.out
    obtain ⟨s0, s1⟩ := hos.s.two
    obtain ⟨c0, c1, c2, c3, c4, c5, c6⟩ := hos.c.seven
    obtain ⟨e0, e1, e2, e3, e4, e5, e6⟩ := hos.e.seven
    obtain ⟨m0, m1⟩ := Blk.two (W := w12) HBM12.out
    obtain ⟨p0, p1⟩ := Blk.two (W := w12) HBN12.out
    have HL7 := hid (nx_len (nx L t d) u k)
    have HL11 := hid (nx_len (nx L u k) t d)
    have HQ12 : Hid (∃ W, W = w12) := hid ⟨_, rfl⟩
    clear hos
    have key : z = false → nx (nx L t d) u k = nx (nx L u k) t d := fun e => nx_comm HASC.out d k (of_decide_eq_false (hz.trans e))
    have HKEY := hid key
    have hne := run_neqT t u z hz
    clear key hz
    go_upto_region 10 with fail
    go_cut [83] (fun s wx => s = .bool false ∧ Below w12.heap.size w12 wx)
    case first =>
      cases z
      · go_wp2_with fail
        refine (same_g true (decide_eq_true (HKEY.out (by first | rfl | trivial))) HM12.out HN12.out (by have := HLEN.out; have := HN5.out; have := HL7.out; omega) (by have := HLEN.out; have := HN9.out; have := HL11.out; omega)).mono ?_
        rintro _ w13 ⟨rfl, hb13⟩
        go_wp2_with fail
        go_meet
        exact ⟨rfl, hb13⟩
      · go_wp2_with fail
        go_meet
        exact ⟨rfl, g_refl⟩
    case rest =>
      obtain ⟨rfl, hb13⟩ := hcut
      obtain ⟨W0, rfl⟩ : ∃ W, W = wc := ⟨_, rfl⟩
      have HB13 := hid (g_trans HB12.out hb13)
      clear s0 s1 c0 c1 c2 c3 c4 c5 c6 e0 e1 e2 e3 e4 e5 e6 m0 m1 p0 p1 hne hb13 hw12 hst11 HKEY HL7 HL11 HN5 HN9 HN12 HBN12 HM12 HBM12 HB12 n0 n1 f0 f1 h59 hz9 HLT5 HZ5
      have hos := HOS.out.below HB13.out
      have hsl : SetL W0 ov T L := ⟨hos.m, HOK.out, by have := HLEN.out; omega⟩
      have HSL := hid hsl
      have HRD13 := hid (HRD4.out.below HB13.out)
      have HB0 := hid (g_trans HB4.out HB13.out)
      have h8 : W0.cell? ⟨b3, 0, none⟩ = some ov ∧ W0.cell? ⟨b3, 1, none⟩ = some (.pointer T.ad) ∧ W0.cell? ⟨g, 0, none⟩ = some (.string t.a) ∧ W0.cell? ⟨g, 1, none⟩ = some (.string t.b) ∧ W0.cell? ⟨g, 2, none⟩ = some (.string t.c) ∧ W0.cell? ⟨g, 3, none⟩ = some (.string t.d) ∧ W0.cell? ⟨g, 4, none⟩ = some (.string t.e) ∧ W0.cell? ⟨g, 5, none⟩ = some (.string t.f) := ⟨hos.s.two.1, hos.s.two.2, hos.c.seven.1, hos.c.seven.2.1, hos.c.seven.2.2.1, hos.c.seven.2.2.2.1, hos.c.seven.2.2.2.2.1, hos.c.seven.2.2.2.2.2.1⟩
      have HS13 := hid hos.s
      have hF := ok_fits HT.out
      have HLS := hid (fun W (h : SetL W ov T L) => list_n h.toMapL (Nat.le_trans h.len (by decide)))
      have HGO := hid (fun W (h : SetL W ov T L) => goal_n t.a t.b t.c h hF.1 hF.2.1 hF.2.2.1)
      have HSU := hid (fun W (h : SetL W ov T L) => subject_n t.d t.e t.f h hF.2.2.2.1 hF.2.2.2.2.1 hF.2.2.2.2.2)
      have HMA := hid (fun W (h : SetL W ov T L) => match_all h)
      have HLG : Hid ((ofG t.a t.b t.c L).length ≤ 100) := hid (Nat.le_trans (List.length_filter_le _ _) (Nat.le_trans HLEN.out (by decide)))
      have HLU : Hid ((ofU t.d t.e t.f L).length ≤ 100) := hid (Nat.le_trans (List.length_filter_le _ _) (Nat.le_trans HLEN.out (by decide)))
      have HLM : Hid ((mtc ⟨⟨#[]⟩, ⟨#[]⟩, ⟨#[]⟩, ⟨#[]⟩, ⟨#[]⟩, ⟨#[]⟩, false⟩ L).length ≤ 100) := hid (Nat.le_trans (mtc_len _ _) (Nat.le_trans HLEN.out (by decide)))
      clear hos hsl hF HOS HB13 HRD4 HB4
      generalize ofG t.a t.b t.c L = LG at *
      generalize ofU t.d t.e t.f L = LU at *
      generalize mtc ⟨⟨#[]⟩, ⟨#[]⟩, ⟨#[]⟩, ⟨#[]⟩, ⟨#[]⟩, ⟨#[]⟩, false⟩ L = LM at *
      go_upto_region 12 with fail
      go_cut [18, 19, 20, 21] (fun s1 s2 s3 s4 wx => ∃ (P Q R U : Option Addr) (n1 n2 n3 n4 : Nat), s1 = .slice P n1 n1 ∧ s2 = .slice Q n2 n2 ∧ s3 = .slice R n3 n3 ∧ s4 = .slice U n4 n4 ∧ WS W0 wx P n1 ∧ WS W0 wx Q n2 ∧ WS W0 wx R n3 ∧ WS W0 wx U n4 ∧ Below W0.heap.size W0 wx)
      case first =>
        have hS := kp8 (g_drew (g_refl (a := W0))) h8
        have HSD := hid (HSL.out.below (g_drew g_refl))
        clear h8
        go_region_held3 (fun w' => w'.cell? ⟨b3, 0, none⟩ = some ov ∧ w'.cell? ⟨b3, 1, none⟩ = some (.pointer T.ad) ∧ w'.cell? ⟨g, 0, none⟩ = some (.string t.a) ∧ w'.cell? ⟨g, 1, none⟩ = some (.string t.b) ∧ w'.cell? ⟨g, 2, none⟩ = some (.string t.c) ∧ w'.cell? ⟨g, 3, none⟩ = some (.string t.d) ∧ w'.cell? ⟨g, 4, none⟩ = some (.string t.e) ∧ w'.cell? ⟨g, 5, none⟩ = some (.string t.f))
          (first | with_reducible assumption | with_reducible exact kp8 (by with_reducible assumption) (by with_reducible assumption))
          (first
          | (go_at_call 18; (with_reducible refine Calls.mono (HLS.out _ HSD.out) ?_); rintro _ y1 ⟨P, rfl, hR1, hd1, hF1⟩; have hG1 := hd1)
          | (go_at_call 19; (with_reducible refine Calls.mono (HGO.out _ (HSD.out.below hG1)) ?_); rintro _ y2 ⟨Q, rfl, hR2, hd2, hF2⟩; have hG2 := g_trans hG1 hd2)
          | (go_at_call 20; (with_reducible refine Calls.mono (HSU.out _ (HSD.out.below hG2)) ?_); rintro _ y3 ⟨R, rfl, hR3, hd3, hF3⟩; have hG3 := g_trans hG2 hd3)
          | (go_at_call 21; (with_reducible refine Calls.mono (HMA.out _ (HSD.out.below hG3)) ?_); rintro _ y4 ⟨U, rfl, hR4, hd4, hF4⟩; have hG4 := g_trans hG3 hd4))
        all_goals
          go_wp2_with fail
          go_meet
          exact ⟨P, Q, R, U, _, _, _, _, rfl, rfl, rfl, rfl, (((WS.of hR1 hF1 (Nat.le_trans HLEN.out (by decide)) (Nat.le_refl _)).below hd2).below hd3).below hd4, ((WS.of hR2 hF2 HLG.out hG1.size).below hd3).below hd4, (WS.of hR3 hF3 HLU.out hG2.size).below hd4, WS.of hR4 hF4 HLM.out hG3.size, g_trans (g_drew g_refl) hG4⟩
      case rest =>
        obtain ⟨P, Q, R, U, n1, n2, n3, n4, rfl, rfl, rfl, rfl, hp, hq2, hr, hu, hB⟩ := hcut
        clear h8 HLS HGO HSU HMA
        have HN : Hid (n1 ≤ 100 ∧ n2 ≤ 100 ∧ n3 ≤ 100 ∧ n4 ≤ 100) := hid ⟨hp.1, hq2.1, hr.1, hu.1⟩
        have HP := hid hp
        have HQ2 := hid hq2
        have HR := hid hr
        have HU2 := hid hu
        have HB := hid hB
        clear hp hq2 hr hu hB
        have HH := hid (⟨HP.out, HQ2.out, HR.out, HU2.out, HB.out⟩ : WS W0 wc P n1 ∧ WS W0 wc Q n2 ∧ WS W0 wc R n3 ∧ WS W0 wc U n4 ∧ Below W0.heap.size W0 wc)
        clear HP HQ2 HR HU2 HB
        go_wp2
        go_loopw [22] (fun i wr => ∃ k : Nat, k ≤ n1 ∧ i = .int .i64 k ∧ WS W0 wr P n1 ∧ WS W0 wr Q n2 ∧ WS W0 wr R n3 ∧ WS W0 wr U n4 ∧ Below W0.heap.size W0 wr) (fun i _ => n1 - (intOf i).toNat)
        case atStart => exact ⟨0, Nat.zero_le _, rfl, HH.out⟩
        case round =>
          clear HH
          obtain ⟨k, hk, rfl, hh⟩ := hrel
          have HH := hid hh
          have hn := HN.out.1
          have i3 : (n1 : Int) ≤ 100 := by omega
          clear hh
          by_cases hlt : k < n1
          · have i1 : (k : Int) < (n1 : Int) := by omega
            have i2 : (0 : Int) ≤ (k : Int) := by omega
            obtain ⟨b, o, rfl, hle, hbl, hel⟩ := HH.out.1.2 (by omega)
            obtain ⟨hc, hf⟩ := hel (k * 6 + 2) (by omega)
            obtain ⟨v, hv⟩ := some_of hc
            rw [← Nat.add_assoc] at hv hf
            clear hc hel hbl
            go_wp2
            go_roundw
            case rel => exact ⟨k + 1, by omega, by go_num, HH.out.1.set _ _, HH.out.2.1.set _ _, HH.out.2.2.1.set _ _, HH.out.2.2.2.1.set _ _, g_set HH.out.2.2.2.2 (p := ⟨b, o + k * 6 + 2, none⟩) hle _⟩
            case measure => simp [intOf]; omega
          · have i1 : ¬ (k : Int) < (n1 : Int) := by omega
            clear hk hn i3 hlt
            go_wp2
            go_loopw [23] (fun i wr => ∃ k : Nat, k ≤ n2 ∧ i = .int .i64 k ∧ WS W0 wr P n1 ∧ WS W0 wr Q n2 ∧ WS W0 wr R n3 ∧ WS W0 wr U n4 ∧ Below W0.heap.size W0 wr) (fun i _ => n2 - (intOf i).toNat)
            case atStart => exact ⟨0, Nat.zero_le _, rfl, HH.out⟩
            case round =>
              clear HH
              obtain ⟨k, hk, rfl, hh⟩ := hrel
              have HH := hid hh
              have hn := HN.out.2.1
              have i3 : (n2 : Int) ≤ 100 := by omega
              clear hh
              by_cases hlt : k < n2
              · have i1 : (k : Int) < (n2 : Int) := by omega
                have i2 : (0 : Int) ≤ (k : Int) := by omega
                obtain ⟨b, o, rfl, hle, hbl, hel⟩ := HH.out.2.1.2 (by omega)
                obtain ⟨hc, hf⟩ := hel (k * 6 + 2) (by omega)
                obtain ⟨v, hv⟩ := some_of hc
                rw [← Nat.add_assoc] at hv hf
                clear hc hel hbl
                go_wp2
                go_roundw
                case rel => exact ⟨k + 1, by omega, by go_num, HH.out.1.set _ _, HH.out.2.1.set _ _, HH.out.2.2.1.set _ _, HH.out.2.2.2.1.set _ _, g_set HH.out.2.2.2.2 (p := ⟨b, o + k * 6 + 2, none⟩) hle _⟩
                case measure => simp [intOf]; omega
              · have i1 : ¬ (k : Int) < (n2 : Int) := by omega
                clear hk hn i3 hlt
                go_wp2
                go_loopw [24] (fun i wr => ∃ k : Nat, k ≤ n3 ∧ i = .int .i64 k ∧ WS W0 wr P n1 ∧ WS W0 wr Q n2 ∧ WS W0 wr R n3 ∧ WS W0 wr U n4 ∧ Below W0.heap.size W0 wr) (fun i _ => n3 - (intOf i).toNat)
                case atStart => exact ⟨0, Nat.zero_le _, rfl, HH.out⟩
                case round =>
                  clear HH
                  obtain ⟨k, hk, rfl, hh⟩ := hrel
                  have HH := hid hh
                  have hn := HN.out.2.2.1
                  have i3 : (n3 : Int) ≤ 100 := by omega
                  clear hh
                  by_cases hlt : k < n3
                  · have i1 : (k : Int) < (n3 : Int) := by omega
                    have i2 : (0 : Int) ≤ (k : Int) := by omega
                    obtain ⟨b, o, rfl, hle, hbl, hel⟩ := HH.out.2.2.1.2 (by omega)
                    obtain ⟨hc, hf⟩ := hel (k * 6 + 2) (by omega)
                    obtain ⟨v, hv⟩ := some_of hc
                    rw [← Nat.add_assoc] at hv hf
                    clear hc hel hbl
                    go_wp2
                    go_roundw
                    case rel => exact ⟨k + 1, by omega, by go_num, HH.out.1.set _ _, HH.out.2.1.set _ _, HH.out.2.2.1.set _ _, HH.out.2.2.2.1.set _ _, g_set HH.out.2.2.2.2 (p := ⟨b, o + k * 6 + 2, none⟩) hle _⟩
                    case measure => simp [intOf]; omega
                  · have i1 : ¬ (k : Int) < (n3 : Int) := by omega
                    clear hk hn i3 hlt
                    go_wp2
                    go_loopw [25] (fun i wr => ∃ k : Nat, k ≤ n4 ∧ i = .int .i64 k ∧ WS W0 wr P n1 ∧ WS W0 wr Q n2 ∧ WS W0 wr R n3 ∧ WS W0 wr U n4 ∧ Below W0.heap.size W0 wr) (fun i _ => n4 - (intOf i).toNat)
                    case atStart => exact ⟨0, Nat.zero_le _, rfl, HH.out⟩
                    case round =>
                      clear HH
                      obtain ⟨k, hk, rfl, hh⟩ := hrel
                      have HH := hid hh
                      have hn := HN.out.2.2.2
                      have i3 : (n4 : Int) ≤ 100 := by omega
                      clear hh
                      by_cases hlt : k < n4
                      · have i1 : (k : Int) < (n4 : Int) := by omega
                        have i2 : (0 : Int) ≤ (k : Int) := by omega
                        obtain ⟨b, o, rfl, hle, hbl, hel⟩ := HH.out.2.2.2.1.2 (by omega)
                        obtain ⟨hc, hf⟩ := hel (k * 6 + 2) (by omega)
                        obtain ⟨v, hv⟩ := some_of hc
                        rw [← Nat.add_assoc] at hv hf
                        clear hc hel hbl
                        go_wp2
                        go_roundw
                        case rel => exact ⟨k + 1, by omega, by go_num, HH.out.1.set _ _, HH.out.2.1.set _ _, HH.out.2.2.1.set _ _, HH.out.2.2.2.1.set _ _, g_set HH.out.2.2.2.2 (p := ⟨b, o + k * 6 + 2, none⟩) hle _⟩
                        case measure => simp [intOf]; omega
                      · have i1 : ¬ (k : Int) < (n4 : Int) := by omega
                        clear hk hn i3 hlt
                        have HB := hid HH.out.2.2.2.2
                        have hs9 : Blk _ b3 _ _ := Blk.below HS13.out HB.out
                        obtain ⟨s0, s1⟩ := hs9.two
                        clear hs9
                        go_wp2_with fail
                        refine (lsame_g (HSL.out.toMapL.below HB.out) D cD (HRD13.out.below HB.out) (Nat.le_trans HLEN.out (by decide))).mono ?_
                        rintro _ w20 ⟨rfl, hb20⟩
                        clear s0 s1
                        go_wp2_with fail
                        refine (lives_any _).mono ?_
                        rintro _ w21 ⟨rfl, hb21⟩
                        go_wp2
                        go_ret
                        have h := HQ.out
                        subst h
                        exact ⟨rfl, g_trans (g_trans (g_trans HA.out (g_trans HB0.out HB.out)) hb20) hb21⟩
end Go.Proofs.Ytfgjeflhhfjgeaa.DT
namespace Go.Proofs.Ytfgjeflhhfjgeaa.setsOrder
open DT Go.ChangeShapes Go.WideShapes Go.ChangeAt Go.RowKit

theorem own : ownKnob Try.prog.godebug = none := by kernel_rfl
theorem cSS : Try.prog.cellsOf 27 = 2 := by kernel_rfl
theorem cT : Try.prog.cellsOf 24 = 1 := by kernel_rfl
theorem cS : Try.prog.cellsOf 22 = 1 := by kernel_rfl
theorem cE : Try.prog.cellsOf 71 = 2 := by kernel_rfl
theorem cB : Try.prog.cellsOf 5 = 1 := by kernel_rfl
theorem cS2 : Try.prog.cellsOf 25 = 1 := by kernel_rfl
theorem cE2 : Try.prog.cellsOf 51 = 3 := by kernel_rfl
theorem laid : laidOutB Try.prog = true := by kernel_rfl

set_option maxRecDepth 100000 in
theorem lifted (os : Os) (started : os.Started) (H : Type) (enc : TypeId × Value → H) :
    ReturnsInHanded {} Try.checked os 4 .any (Rows.setsOrderSpec.pre6 enc Try.prog Try.f4 Rows.setsOrderRow.domain false) (Rows.setsOrderSpec.post enc Try.prog Try.f4 false true false false) := by
  refine returnsInHanded_of_change (C := Try.checked) own started (by kernel_rfl) Try.func4
    (ChangeSpec.witness6 (enc := enc) (C := Try.checked) false ⟨#[], #[.agg #[.slice none 0 0, .slice none 0 0], .agg #[.int .u8 0, .int .u8 0, .int .u8 0], .agg #[.int .u8 0, .int .u8 0, .int .u8 0]], []⟩ 8 (by kernel_rfl) (by kernel_rfl) (by kernel_rfl) (by kernel_rfl)) ?_
  intro W base args ds gs before hval0 hW hcnd _
  have hval : ∀ (j : Nat) t v, Try.f4.params[j]? = some t → args[j]? = some v → Value.okWide Try.prog W .any base t v := hval0
  have hW' := hW
  obtain ⟨p, q, hA0, hV, rfl, hfz, hnd⟩ := hW
  have hA : DataW.TrodAll enc Try.prog W 0 (fun _ => true) true Try.f4.params.toList args.toList ds p := hA0
  rw [Try.params4] at hA hval
  obtain ⟨v0, vs0, d0, ds0, p0, q0, hargs, rfl, rfl, h0, r0⟩ := trodAll_cons hA
  obtain ⟨v1, vs1, d1, ds1, p1, q1, rfl, rfl, rfl, h1, r1⟩ := trodAll_cons r0
  obtain ⟨v2, vs2, d2, ds2, p2, q2, rfl, rfl, rfl, h2, r2⟩ := trodAll_cons r1
  obtain ⟨rfl, rfl, rfl⟩ := trodAll_nil r2
  obtain rfl : args = #[v0, v1, v2] := by cases args; simp_all
  obtain ⟨rfl, rfl⟩ := trodVars_none hV
  have k0 := h0
  have k1 := h1
  have k2 := h2
  obtain ⟨A, x, c, B, y, c2, rfl, hx, hR, hy, hM⟩ := open_set Try.underlying27 rfl rfl rfl rfl cSS Try.underlying24 rfl rfl cT cS Try.underlying22 Try.underlying71 cE cB Try.underlying5 cS2 Try.underlying25 Try.underlying51 cE2 (hval 0 27 v0 rfl rfl) h0
  obtain ⟨a0, a1, a2, rfl, ha0, ha1, ha2⟩ := open_thr Try.underlying51 cE2 cB Try.underlying5 (hval 1 51 v1 rfl rfl) h1
  obtain ⟨b0, b1, b2, rfl, hb0, hb1, hb2⟩ := open_thr Try.underlying51 cE2 cB Try.underlying5 (hval 2 51 v2 rfl rfl) h2
  have hlt0 : ∀ x ∈ p0, x.block < W.heap.size := fun x hx => by simpa using hW'.lt x (by simp [hx])
  have hlt1 : ∀ x ∈ p1, x.block < W.heap.size := fun x hx => by simpa using hW'.lt x (by simp [hx])
  have hlt2 : ∀ x ∈ p2, x.block < W.heap.size := fun x hx => by simpa using hW'.lt x (by simp [hx])
  clear hA0 hval0
  refine (order_walk A x c B y c2 a0 a1 a2 b0 b1 b2 W hR hx hM hy ha0 ha1 ha2 hb0 hb1 hb2).mono fun r W' ⟨he, hg⟩ => ?_
  subst he
  exact ⟨_, rfl, _, _, _, [], _, _, hW', trodAll_cons_mk (shut_bool Try.underlying4 _) trodAll_mk0,
    trodAll_cons_mk (Below.trod laid (by kernel_rfl) (of_decide_eq_true (by kernel_rfl)) k0 hg hlt0) (trodAll_cons_mk (Below.trod laid (by kernel_rfl) (of_decide_eq_true (by kernel_rfl)) k1 hg hlt1) (trodAll_cons_mk (Below.trod laid (by kernel_rfl) (of_decide_eq_true (by kernel_rfl)) k2 hg hlt2) trodAll_mk0)), rfl, hg.frame _, fun h => by cases h⟩

theorem over : Rows.setsOrderRow.holds Try.pinned (OpenSpec.ofChange Rows.setsOrderSpec) :=
  OpenClaim.holds_of_wide 4 Try.f4 rfl rfl rfl rfl rfl rfl rfl ⟨rfl, rfl, rfl, rfl, rfl⟩ rfl rfl rfl rfl rfl (by kernel_rfl) Try.func4 (by kernel_rfl)
    (of_decide_eq_true (by kernel_rfl)) (by unfold Func.isWrapper; first | (rw [if_pos (by decide +kernel)]; kernel_rfl) | (rw [if_neg (by decide +kernel)]; exact ⟨rfl, rfl⟩))
    (fun os started H enc _ => lifted os started H enc)

theorem proved : Rows.SetsOrderSaid := over
end Go.Proofs.Ytfgjeflhhfjgeaa.setsOrder
