/-
  THE CONTRACT of the reference's With; the law's same and Change.
  THE CONTRACTS of the law's small and lives (layer 6).
  PLAIN FACTS about the law's sets: valid tuples, sorted lists of them, changes and back; calls in the words that the laws want.
  ARGUMENTS AS DATA: a list of pairs of bytes in a struct, and a pair of bytes by value, taken apart.
  ARGUMENTS AS DATA: sets as the laws draw them (a list of pairs and a list of triples of bytes), and three bytes by value.
  THE WALK of SetsPlay.
  SetsPlay: for every set and every list of changes the call returns true, and they read as before. No condition.
-/
import Derived.Test.YtfgjeflhhfjgeaaDTGls
import Derived.Test.YtfgjeflhhfjgeaaTSm
import Derived.Test.YtfgjeflhhfjgeaaFPar
import Derived.Test.YtfgjeflhhfjgeaaTOf
import Derived.ProofKit
import Derived.OpenShut
import Derived.ChangeSame
import Derived.Carry
import Derived.Deep.Slices
import Derived.Deep.RegionHeld
namespace Go.Proofs.Ytfgjeflhhfjgeaa.DT
open Go.RowKit Go.Deep

theorem some_del {l : List Tup} (hl : Asc cmpT l) (k : Tup) : someL l [k] true false false = Tr.del k l := by
  unfold someL
  refine (srt_of tot (Tr.del_asc hl) fun t => ?_).symm
  unfold flt
  rw [Tr.mem_del, List.mem_filter, List.mem_append]
  unfold sel
  by_cases h1 : t ∈ l <;> by_cases h2 : t = k <;> simp [h1, h2]
theorem some_ins {l : List Tup} (hl : Asc cmpT l) {k : Tup} (hk : k ∉ l) : someL l [k] true true true = ins cmpT k l := by
  unfold someL
  refine (srt_of tot (asc_ins tot k l hl hk) fun t => ?_).symm
  unfold flt
  rw [mem_ins, List.mem_filter, List.mem_append]
  unfold sel
  by_cases h1 : t ∈ l <;> by_cases h2 : t = k <;> simp [h1, h2]
theorem wth_asc {l : List Tup} (hl : Asc cmpT l) (k : Tup) (d : Bool) : Asc cmpT (wth l k d).1 := by
  unfold wth
  repeat' split
  all_goals first | exact List.Pairwise.nil | exact Tr.del_asc hl | exact hl | (rename_i h _; exact asc_ins tot k l hl h)
theorem wth_ok {l : List Tup} (hl : ∀ t ∈ l, okT t = true) (k : Tup) (d : Bool) : ∀ t ∈ (wth l k d).1, okT t = true := by
  unfold wth
  split
  · intro t h; cases h
  · rename_i ho
    split
    · intro t h; exact hl t (Tr.mem_del.1 h).1
    · split
      · exact hl
      · split
        · intro t h; cases h
        · intro t h
          rcases (mem_ins cmpT k t l).1 h with e | h
          · rw [e]; cases hk : okT k
            · exact absurd hk ho
            · rfl
          · exact hl t h
theorem ok_fits {t : Tup} (h : okT t = true) : Fits t := by
  obtain ⟨h1, h2, h3, h4⟩ := okT_parts h
  unfold okSub at h4
  simp only [Bool.and_eq_true, Bool.or_eq_true] at h4
  have g : ∀ s : ByteArray, nb s = true → s.size ≤ maxLen := fun s h => Nat.le_trans (nb_small h) (by decide)
  exact ⟨g _ h1, g _ h2, g _ h3, g _ h4.1.1, g _ h4.1.2, h4.2.elim (fun h => by rw [empty_of h]; exact Nat.zero_le _) (g _)⟩
/-- what the reference's With gives -/
def GivesW (w : World) (r : List Tup × Int) (e : Ending) (w' : World) : Prop := ∃ A c, e = .returned (.tuple #[.slice A r.1.length c, .int .i64 r.2]) ∧ Row w' A r.1 ∧ Below w.heap.size w w'
theorem rtcheck_f (x : Tup) (k : Int) (w : World) (hx : Fits x) (h : err (okT x) = k) :
    Calls Try.prog 33 #[.agg #[.string x.a, .string x.b, .string x.c, .string x.d, .string x.e, .string x.f]] w fun e w' => e = .returned (.int .i64 k) ∧ Below w.heap.size w w' := by subst h; exact rtcheck x w hx
theorem rin_f (A : Option Addr) (l : List Tup) (c : Nat) (x : Tup) (w : World) (v : Int) (hR : Row w A l) (hn : l.length ≤ 10000) (h : inI x l = v) :
    Calls Try.prog 26 #[.slice A l.length c, .agg #[.string x.a, .string x.b, .string x.c, .string x.d, .string x.e, .string x.f]] w fun e w' => e = .returned (.int .i64 v) ∧ Below w.heap.size w w' := by
  subst h; exact (rin A l c x w hR hn).mono fun _ _ h => ⟨h.1, h.2.toBelow⟩
theorem rsome_f (A B : Option Addr) (x : List Tup) (k : Tup) (ca cb : Nat) (a c b : Bool) (w : World) (L : List Tup) (hR : Row w A x) (hS : Row w B [k]) (hF : ∀ t ∈ x, Fits t) (hG : Fits k) (hx : x.length ≤ 4000) (h : someL x [k] a c b = L) :
    Calls Try.prog 34 #[.slice A x.length ca, .slice B 1 cb, .bool a, .bool c, .bool b] w fun e w' => ∃ A c, e = .returned (.slice A L.length c) ∧ Row w' A L ∧ Below w.heap.size w w' := by
  subst h
  refine (rsome A B x [k] ca cb a c b w hR hS hF (fun t ht => by rw [List.mem_singleton.1 ht]; exact hG) hx (by simp)).mono ?_
  rintro _ _ ⟨v, rfl, hO, hg⟩
  obtain ⟨A', c', rfl, hR', -, -⟩ := hO.row
  exact ⟨A', c', rfl, hR', hg.toBelow⟩
theorem rw_world (w : World) (k : Tup) (d : Bool) (W : World) (hW : W = w.alloc (.cells #[.string k.a, .string k.b, .string k.c, .string k.d, .string k.e, .string k.f, .bool d] 49 (0, 0))) :
    Below w.heap.size w W ∧ (W.cell? ⟨w.heap.size, 0, none⟩ = some (.string k.a) ∧ W.cell? ⟨w.heap.size, 1, none⟩ = some (.string k.b) ∧ W.cell? ⟨w.heap.size, 2, none⟩ = some (.string k.c) ∧ W.cell? ⟨w.heap.size, 3, none⟩ = some (.string k.d) ∧ W.cell? ⟨w.heap.size, 4, none⟩ = some (.string k.e) ∧ W.cell? ⟨w.heap.size, 5, none⟩ = some (.string k.f) ∧ W.cell? ⟨w.heap.size, 6, none⟩ = some (.bool d)) := by
  have n := new_at w (.cells #[.string k.a, .string k.b, .string k.c, .string k.d, .string k.e, .string k.f, .bool d] 49 (0, 0))
  rw [← hW] at n
  have e := fun j => box_cell n j
  exact ⟨by rw [hW]; exact g_alloc g_refl _, ⟨(e 0).trans rfl, (e 1).trans rfl, (e 2).trans rfl, (e 3).trans rfl, (e 4).trans rfl, (e 5).trans rfl, (e 6).trans rfl⟩⟩
theorem row_one (w : World) (k : Tup) : Row (w.alloc (.cells #[.string k.a, .string k.b, .string k.c, .string k.d, .string k.e, .string k.f] 47 (0, 0))) (some ⟨w.heap.size, 0, none⟩) [k] := fun _ =>
  ⟨w.heap.size, 0, rfl, by simp, fun i hi c v hv => by
    have hi0 : i = 0 := by simpa using hi
    subst hi0
    have h6 := box6p w k 47
    have hc := enc_lt hv
    simp only [List.getElem_cons_zero] at hv
    simp only [Nat.zero_mul, Nat.zero_add]
    match c, hc with
    | 0, _ => cases hv; exact h6.1
    | 1, _ => cases hv; exact h6.2.1
    | 2, _ => cases hv; exact h6.2.2.1
    | 3, _ => cases hv; exact h6.2.2.2.1
    | 4, _ => cases hv; exact h6.2.2.2.2.1
    | 5, _ => cases hv; exact h6.2.2.2.2.2⟩
set_option maxRecDepth 20000 in
set_option maxHeartbeats 2000000 in
theorem rwith_any (A : Option Addr) (l : List Tup) (c : Nat) (k : Tup) (d : Bool) (w : World) (hR : Row w A l) (hF : ∀ t ∈ l, Fits t) (hk : Fits k) (hl : Asc cmpT l) (hn : l.length ≤ 4000) :
    Calls Try.prog 12 #[.slice A l.length c, .agg #[.string k.a, .string k.b, .string k.c, .string k.d, .string k.e, .string k.f, .bool d]] w (GivesW w (wth l k d)) := by
  obtain ⟨hA, hC⟩ := rw_world w k d _ rfl
  have HA := hid hA
  have HC := hid hC
  have HR := hid (hR.below hA)
  have HF := hid hF
  have HK := hid hk
  have HN := hid hn
  cases ho : okT k
  · have e : wth l k d = ([], 6) := by unfold wth; rw [if_pos ho]
    rw [e]
    have HP := hid (fun W => rtcheck_f k 6 W hk (by rw [ho]; rfl))
    clear hA hC hR hF hk hl hn ho e
    go_enter Try.func12, Try.ntmps12
    go_wp2_with fail
    refine (HP.out _).mono ?_
    rintro _ w1 ⟨rfl, hb1⟩
    go_wp2
    go_ret2
    exact ⟨none, 0, rfl, Row.nil _ _, g_trans HA.out hb1⟩
  · have HP := hid (fun W => rtcheck_f k 0 W hk (by rw [ho]; rfl))
    cases d
    · by_cases hm : k ∈ l
      · have e : wth l k false = (l, 0) := by unfold wth; rw [if_neg (by rw [ho]; decide), if_neg Bool.noConfusion, if_pos hm]
        rw [e]
        have HI := hid (fun W (h : Row W A l) => rin_f A l c k W 1 h (Nat.le_trans hn (by decide)) (by unfold inI; rw [if_pos hm]))
        clear hA hC hR hF hk hl hn ho e hm
        go_enter Try.func12, Try.ntmps12
        go_wp2_with fail
        refine (HP.out _).mono ?_
        rintro _ w1 ⟨rfl, hb1⟩
        obtain ⟨s0, s1, s2, s3, s4, s5, s6⟩ := keep7 hb1 HC.out
        have HR1 := hid (HR.out.below hb1)
        go_wp2_with fail
        refine (HI.out _ HR1.out).mono ?_
        rintro _ w2 ⟨rfl, hb2⟩
        clear s0 s1 s2 s3 s4 s5 s6
        go_wp2
        go_ret2
        exact ⟨A, c, rfl, HR1.out.below hb2, g_trans (g_trans HA.out hb1) hb2⟩
      · have e : wth l k false = (ins cmpT k l, 0) := by unfold wth; rw [if_neg (by rw [ho]; decide), if_neg Bool.noConfusion, if_neg hm, if_neg (by omega)]
        rw [e]
        have HI := hid (fun W (h : Row W A l) => rin_f A l c k W 0 h (Nat.le_trans hn (by decide)) (by unfold inI; rw [if_neg hm]))
        have HS := hid (some_ins hl hm)
        have hlt : ¬ (4096 : Int) ≤ (l.length : Int) := by omega
        clear hA hC hR hF hk hl hn ho e hm
        go_enter Try.func12, Try.ntmps12
        go_wp2_with fail
        refine (HP.out _).mono ?_
        rintro _ w1 ⟨rfl, hb1⟩
        obtain ⟨s0, s1, s2, s3, s4, s5, s6⟩ := keep7 hb1 HC.out
        have HR1 := hid (HR.out.below hb1)
        go_wp2_with fail
        refine (HI.out _ HR1.out).mono ?_
        rintro _ w2 ⟨rfl, hb2⟩
        have HR2 := hid (HR1.out.below hb2)
        have hb12 := g_trans hb1 hb2
        clear s0 s1 s2 s3 s4 s5 s6
        obtain ⟨s0, s1, s2, s3, s4, s5, s6⟩ := keep7 hb12 HC.out
        go_wp2_with fail
        refine (rsome_f A _ l k c 1 true true true _ _ (HR2.out.below (g_alloc g_refl _)) (row_one w2 k) HF.out HK.out HN.out HS.out).mono ?_
        rintro _ w3 ⟨B, cB, rfl, hRB, hb3⟩
        go_wp2
        go_ret2
        exact ⟨B, cB, rfl, hRB, g_trans (g_alloc (g_trans HA.out hb12) _) hb3⟩
    · have e : wth l k true = (Tr.del k l, 0) := by unfold wth; rw [if_neg (by rw [ho]; decide), if_pos rfl]
      rw [e]
      have HS := hid (some_del hl k)
      clear hA hC hR hF hk hl hn ho e
      go_enter Try.func12, Try.ntmps12
      go_wp2_with fail
      refine (HP.out _).mono ?_
      rintro _ w1 ⟨rfl, hb1⟩
      obtain ⟨s0, s1, s2, s3, s4, s5, s6⟩ := keep7 hb1 HC.out
      have HR1 := hid (HR.out.below hb1)
      go_wp2_with fail
      refine (rsome_f A _ l k c 1 true false false _ _ (HR1.out.below (g_alloc g_refl _)) (row_one w1 k) HF.out HK.out HN.out HS.out).mono ?_
      rintro _ w3 ⟨B, cB, rfl, hRB, hb3⟩
      go_wp2
      go_ret2
      exact ⟨B, cB, rfl, hRB, g_trans (g_alloc (g_trans HA.out hb1) _) hb3⟩
theorem rsame_f (A B : Option Addr) (l m : List Tup) (c d : Nat) (w : World) (n : Nat) (v : Int) (hR : Row w A l) (hS : Row w B m) (hl : l.length = n) (hm : m.length = n) (hn : n ≤ 10000) (h : sameI l m = v) :
    Calls Try.prog 15 #[.slice A n c, .slice B n d] w fun e w' => e = .returned (.int .i64 v) ∧ Below w.heap.size w w' := by
  subst h; exact (rsame_n A B l m n n c d w hR hS hl hm hn).mono fun _ _ h => ⟨h.1, h.2.toBelow⟩
set_option maxRecDepth 20000 in
set_option maxHeartbeats 2000000 in
theorem lsame_any {w : World} {ov : Value} {T : Tr} {m : List Tup} (h : MapL w ov T m) (A : Option Addr) (l : List Tup) (c : Nat) (v : Int) (hR : Row w A l) (hm : m.length ≤ 10000) (hv : sameI m l = v) :
    Calls Try.prog 9 #[.agg #[ov, .pointer T.ad], .slice A l.length c] w fun e w' => e = .returned (.int .i64 v) ∧ Below w.heap.size w w' := by
  have hA : Below w.heap.size w (w.alloc (.cells #[ov, .pointer T.ad] 35 (0, 0))) := g_alloc g_refl _
  have HA := hid hA
  have HBP := hid (box2p w ov (.pointer T.ad) 35)
  have HL := hid (h.below hA)
  have HR := hid (hR.below hA)
  have HV := hid hv
  have HN := hid hm
  by_cases he : m.length = l.length
  · have HE := hid he
    rw [← he]
    have hee : ((m.length : Int) == (m.length : Int)) = true := by simp
    clear h hR hA hv hm he
    go_enter Try.func9, Try.ntmps9
    go_wp2_with fail
    refine (list_r HL.out (Nat.le_trans HN.out (by decide))).mono ?_
    rintro _ w1 ⟨B, rfl, hRB, hb1⟩
    have HRB := hid hRB
    have HL1 := hid (HL.out.below hb1)
    have HR1 := hid (HR.out.below hb1)
    obtain ⟨k0, k1⟩ := keep2 hb1 HBP.out
    clear hRB
    go_wp2_with fail
    refine (len_l HL1.out).mono ?_
    rintro _ w2 ⟨rfl, hb2⟩
    clear k0 k1
    go_wp2_with fail
    refine (rsame_f B A m l _ _ _ m.length v (HRB.out.below hb2) (HR1.out.below hb2) rfl HE.out.symm HN.out HV.out).mono ?_
    rintro _ w3 ⟨rfl, hb3⟩
    go_wp2
    go_ret
    exact ⟨rfl, g_trans (g_trans (g_trans HA.out hb1) hb2) hb3⟩
  · have e : v = 0 := by rw [← hv]; exact sameI_len he
    subst e
    have hee : ((m.length : Int) != (l.length : Int)) = true := bne_iff_ne.2 (by omega)
    have hne : ¬ (m.length : Int) = (l.length : Int) := by omega
    clear h hR hA hv hm he
    go_enter Try.func9, Try.ntmps9
    go_wp2_with fail
    refine (list_r HL.out (Nat.le_trans HN.out (by decide))).mono ?_
    rintro _ w1 ⟨B, rfl, hRB, hb1⟩
    have HL1 := hid (HL.out.below hb1)
    obtain ⟨k0, k1⟩ := keep2 hb1 HBP.out
    clear hRB
    go_wp2_with fail
    refine (len_l HL1.out).mono ?_
    rintro _ w2 ⟨rfl, hb2⟩
    clear k0 k1
    go_wp2
    go_ret
    exact ⟨rfl, g_trans (g_trans HA.out hb1) hb2⟩
theorem res7 {a b : World} {g : Nat} {t : TypeId} {x0 x1 x2 x3 x4 x5 x6 : Value} (h : a.heap[g]? = some (.cells #[x0, x1, x2, x3, x4, x5, x6] t (0, 0))) (k : Below a.heap.size a b) :
    (b.frozen? ⟨g, 0, none⟩ = false ∧ b.frozen? ⟨g, 1, none⟩ = false ∧ b.frozen? ⟨g, 2, none⟩ = false ∧ b.frozen? ⟨g, 3, none⟩ = false ∧ b.frozen? ⟨g, 4, none⟩ = false ∧ b.frozen? ⟨g, 5, none⟩ = false ∧ b.frozen? ⟨g, 6, none⟩ = false) ∧ (b.cell? ⟨g, 0, none⟩ = some x0 ∧ b.cell? ⟨g, 1, none⟩ = some x1 ∧ b.cell? ⟨g, 2, none⟩ = some x2 ∧ b.cell? ⟨g, 3, none⟩ = some x3 ∧ b.cell? ⟨g, 4, none⟩ = some x4 ∧ b.cell? ⟨g, 5, none⟩ = some x5 ∧ b.cell? ⟨g, 6, none⟩ = some x6) := by
  have e := (k.block g (Array.getElem?_eq_some_iff.1 h).1).trans h
  exact ⟨⟨box_frozen e 0, box_frozen e 1, box_frozen e 2, box_frozen e 3, box_frozen e 4, box_frozen e 5, box_frozen e 6⟩, ⟨(box_cell e 0).trans rfl, (box_cell e 1).trans rfl, (box_cell e 2).trans rfl, (box_cell e 3).trans rfl, (box_cell e 4).trans rfl, (box_cell e 5).trans rfl, (box_cell e 6).trans rfl⟩⟩
theorem set_7 {W : World} {b p o : Nat} {u0 u1 u2 u3 u4 u5 u6 x : Value} (h : ¬ b = p) (k : W.cell? ⟨b, o, none⟩ = some x) :
    (((((((W.setCell ⟨p, 0, none⟩ u0).setCell ⟨p, 1, none⟩ u1).setCell ⟨p, 2, none⟩ u2).setCell ⟨p, 3, none⟩ u3).setCell ⟨p, 4, none⟩ u4).setCell ⟨p, 5, none⟩ u5).setCell ⟨p, 6, none⟩ u6).cell? ⟨b, o, none⟩ = some x :=
  set_c h (set_c h (set_c h (set_c h (set_c h (set_c h (set_c h k))))))
theorem one_f (p q : Nat) (w : World) (hp : p < 256) (hq : q < 256) (t : Tup) (h : one p q = t) :
    Calls Try.prog 25 #[.agg #[.int .u8 p, .int .u8 q]] w fun e w' => e = .returned (.agg #[.string t.a, .string t.b, .string t.c, .string t.d, .string t.e, .string t.f]) ∧ Below w.heap.size w w' := by
  subst h; exact (one_any p q w hp hq).mono fun _ _ h => ⟨h.1, h.2.toBelow⟩
set_option maxRecDepth 20000 in
set_option maxHeartbeats 2000000 in
theorem change_any (p q r : Nat) (w : World) (hp : p < 256) (hq : q < 256) (hr : r < 256) (t : Tup) (h : one p q = t) (z : Bool) (hz : decide (r % 2 = 1) = z) :
    Calls Try.prog 10 #[.agg #[.int .u8 p, .int .u8 q, .int .u8 r]] w fun e w' => e = .returned (.agg #[.string t.a, .string t.b, .string t.c, .string t.d, .string t.e, .string t.f, .bool z]) ∧ Below w.heap.size w w' := by
  have HO := hid (fun W => one_f p q W hp hq t h)
  have hz2 : (((r : Int).tmod 2) == 1) = z := by
    rw [← hz]
    rw [show (r : Int).tmod 2 = ((r % 2 : Nat) : Int) by rw [Int.tmod_eq_emod_of_nonneg (by omega)]; omega]
    by_cases h : r % 2 = 1
    · rw [h]; rfl
    · have : r % 2 = 0 := by omega
      rw [this]; rfl
  have r0 : (0 : Int) ≤ (r : Int) := by omega
  have r1 : (r : Int) < 256 := by omega
  obtain ⟨w1, h1⟩ : ∃ w1, w.alloc (.cells #[.int .u8 p, .int .u8 q, .int .u8 r] 51 (0, 0)) = w1 := ⟨_, rfl⟩
  have s1 : w1.heap.size = w.heap.size + 1 := by rw [← h1]; simp
  have b1 : Below w.heap.size w w1 := by rw [← h1]; exact g_alloc g_refl _
  have m := new_at w (.cells #[.int .u8 p, .int .u8 q, .int .u8 r] 51 (0, 0))
  rw [h1] at m
  have HB := hid (g_alloc b1 (.cells #[.string ⟨#[]⟩, .string ⟨#[]⟩, .string ⟨#[]⟩, .string ⟨#[]⟩, .string ⟨#[]⟩, .string ⟨#[]⟩, .bool false] 49 (0, 0)))
  have m2 := new_old (o := .cells #[.string ⟨#[]⟩, .string ⟨#[]⟩, .string ⟨#[]⟩, .string ⟨#[]⟩, .string ⟨#[]⟩, .string ⟨#[]⟩, .bool false] 49 (0, 0)) m
  have r2 := new_at w1 (.cells #[.string ⟨#[]⟩, .string ⟨#[]⟩, .string ⟨#[]⟩, .string ⟨#[]⟩, .string ⟨#[]⟩, .string ⟨#[]⟩, .bool false] 49 (0, 0))
  rw [s1] at r2
  have HM := hid m2
  have HR := hid r2
  rw [← h1] at HB HM HR
  clear h hz s1 b1 m m2 r2 h1 w1
  go_enter Try.func10, Try.ntmps10
  go_wp2_with fail
  generalize hA1 : ((w.alloc (.cells #[.int .u8 p, .int .u8 q, .int .u8 r] 51 (0, 0))).alloc (.cells #[.string ⟨#[]⟩, .string ⟨#[]⟩, .string ⟨#[]⟩, .string ⟨#[]⟩, .string ⟨#[]⟩, .string ⟨#[]⟩, .bool false] 49 (0, 0))) = A1 at *
  generalize hq : w.heap.size = g at *
  have HQ := hid hq
  clear hA1 hq
  have c0 : A1.drew.cell? ⟨g, 0, none⟩ = some (.int .u8 p) := (box_cell HM.out 0).trans rfl
  have c1 : A1.drew.cell? ⟨g, 1, none⟩ = some (.int .u8 q) := (box_cell HM.out 1).trans rfl
  have c2 : A1.drew.cell? ⟨g, 2, none⟩ = some (.int .u8 r) := (box_cell HM.out 2).trans rfl
  have hS : A1.drew.cell? ⟨g, 0, none⟩ = some (.int .u8 p) ∧ A1.drew.cell? ⟨g, 1, none⟩ = some (.int .u8 q) ∧ A1.drew.cell? ⟨g, 2, none⟩ = some (.int .u8 r) := ⟨c0, c1, c2⟩
  have HS := hid hS
  have HR1 : Hid (A1.drew.heap[g + 1]? = some (.cells #[.string ⟨#[]⟩, .string ⟨#[]⟩, .string ⟨#[]⟩, .string ⟨#[]⟩, .string ⟨#[]⟩, .string ⟨#[]⟩, .bool false] 49 (0, 0))) := hid HR.out
  have HB1 : Hid (Below g w A1.drew) := hid (by have h := HQ.out; subst h; exact g_drew HB.out)
  clear c0 c1 c2 HM HR HB
  have n1 : ¬ g = g + 1 := by omega
  have n2 : ¬ g + 1 = g := by omega
  go_region_held3 (fun w' => w'.cell? ⟨g, 0, none⟩ = some (.int .u8 p) ∧ w'.cell? ⟨g, 1, none⟩ = some (.int .u8 q) ∧ w'.cell? ⟨g, 2, none⟩ = some (.int .u8 r)) (first | with_reducible assumption | exact ⟨set_7 n1 hS2.1, set_7 n1 hS2.2.1, set_7 n1 hS2.2.2⟩)
    (first | (go_at_call 25; (with_reducible refine Calls.mono (HO.out _) ?_); rintro _ w2 ⟨rfl, hb2⟩; obtain ⟨⟨f0, f1, f2, f3, f4, f5, f6⟩, ⟨d0, d1, d2, d3, d4, d5, d6⟩⟩ := res7 HR1.out hb2; have hS2 := keep3 hb2 HS.out))
  all_goals go_wp2
  all_goals refine bodyPost_ret (v := .agg #[.string t.a, .string t.b, .string t.c, .string t.d, .string t.e, .string t.f, .bool z]) ?_ rfl ?_
  · simp [results, Try.results10, go_sem, *]
  · have h := HQ.out
    subst h
    have hg : w.heap.size ≤ w.heap.size + 1 := Nat.le_succ _
    exact ⟨rfl, g_set (g_set (g_set (g_set (g_set (g_set (g_set (g_trans HB1.out hb2) hg _) hg _) hg _) hg _) hg _) hg _) hg _⟩
end Go.Proofs.Ytfgjeflhhfjgeaa.DT
namespace Go.Proofs.Ytfgjeflhhfjgeaa.DT
open Go.RowKit Go.Deep

def t0 : Tup := ⟨⟨#[100, 111, 99]⟩, ⟨#[97]⟩, ⟨#[118, 105, 101, 119, 101, 114]⟩, ⟨#[117, 115, 101, 114]⟩, ⟨#[120]⟩, ⟨#[]⟩⟩
theorem lr0 : rtup ⟨#[100, 111, 99, 58, 97, 35, 118, 105, 101, 119, 101, 114, 64, 117, 115, 101, 114, 58, 120]⟩ = (t0, 0) := by decide +kernel
def t1 : Tup := ⟨⟨#[100, 111, 99]⟩, ⟨#[97]⟩, ⟨#[118, 105, 101, 119, 101, 114]⟩, ⟨#[103, 114, 111, 117, 112]⟩, ⟨#[103]⟩, ⟨#[109, 101, 109, 98, 101, 114]⟩⟩
theorem lr1 : rtup ⟨#[100, 111, 99, 58, 97, 35, 118, 105, 101, 119, 101, 114, 64, 103, 114, 111, 117, 112, 58, 103, 35, 109, 101, 109, 98, 101, 114]⟩ = (t1, 0) := by decide +kernel
def t2 : Tup := ⟨⟨#[100, 111, 99]⟩, ⟨#[98]⟩, ⟨#[118, 105, 101, 119, 101, 114]⟩, ⟨#[117, 115, 101, 114]⟩, ⟨#[120]⟩, ⟨#[]⟩⟩
theorem lr2 : rtup ⟨#[100, 111, 99, 58, 98, 35, 118, 105, 101, 119, 101, 114, 64, 117, 115, 101, 114, 58, 120]⟩ = (t2, 0) := by decide +kernel
def smallL : List Tup := [t0, t1, t2]
theorem rtparse_x (s : ByteArray) (x : Tup) (w : World) (hs : s.size ≤ 1000) (h : rtup s = (x, 0)) :
    Calls Try.prog 44 #[.string s] w fun r w' => r = .returned (.tuple #[.agg #[.string x.a, .string x.b, .string x.c, .string x.d, .string x.e, .string x.f], .int .i64 0]) ∧ Below w.heap.size w w' := by
  have q := rtparse s w (by unfold maxLen; omega); unfold RTupRet at q; rw [h] at q; exact q.mono fun _ _ h => ⟨h.1, h.2⟩
theorem new_cells1 (w : World) (o : Obj) (x : Tup) (t : TypeId) : ∀ c v, (enc x)[c]? = some v → ((w.alloc o).alloc (.cells #[.string x.a, .string x.b, .string x.c, .string x.d, .string x.e, .string x.f] t)).cell? ⟨w.heap.size + 1, c, none⟩ = some v := fun c v h => by
  have q := new_cells (w.alloc o) x t c v h
  rwa [show (w.alloc o).heap.size = w.heap.size + 1 by simp] at q
set_option maxRecDepth 20000 in
set_option maxHeartbeats 2000000 in
theorem small_any (w : World) : Calls Try.prog 22 #[] w fun e w' => ∃ v, e = .returned v ∧ Own w' w.heap.size v smallL ∧ Below w.heap.size w w' := by
  go_enter Try.func22, Try.ntmps22
  go_wp2
  go_loopw [1, 3] (fun v i wr => ∃ k : Nat, k ≤ 3 ∧ i = .int .i64 k ∧ Own wr (w.heap.size + 1) v (smallL.take k) ∧ Below (w.alloc (.cells #[.string ⟨#[100, 111, 99, 58, 97, 35, 118, 105, 101, 119, 101, 114, 64, 117, 115, 101, 114, 58, 120]⟩, .string ⟨#[100, 111, 99, 58, 97, 35, 118, 105, 101, 119, 101, 114, 64, 103, 114, 111, 117, 112, 58, 103, 35, 109, 101, 109, 98, 101, 114]⟩, .string ⟨#[100, 111, 99, 58, 98, 35, 118, 105, 101, 119, 101, 114, 64, 117, 115, 101, 114, 58, 120]⟩] 9)).heap.size (w.alloc (.cells #[.string ⟨#[100, 111, 99, 58, 97, 35, 118, 105, 101, 119, 101, 114, 64, 117, 115, 101, 114, 58, 120]⟩, .string ⟨#[100, 111, 99, 58, 97, 35, 118, 105, 101, 119, 101, 114, 64, 103, 114, 111, 117, 112, 58, 103, 35, 109, 101, 109, 98, 101, 114]⟩, .string ⟨#[100, 111, 99, 58, 98, 35, 118, 105, 101, 119, 101, 114, 64, 117, 115, 101, 114, 58, 120]⟩] 9)) wr) (fun _ i _ => 3 - (intOf i).toNat)
  case atStart => exact ⟨0, by omega, rfl, Own.nil _ _, g_refl⟩
  case round =>
    obtain ⟨k, hk, rfl, hown, hw⟩ := hrel
    have c0 : wr.cell? ⟨w.heap.size, 0, none⟩ = some (.string ⟨#[100, 111, 99, 58, 97, 35, 118, 105, 101, 119, 101, 114, 64, 117, 115, 101, 114, 58, 120]⟩) := (own_cells hw _ (by simp) _).1.trans (by go_simp)
    have c1 : wr.cell? ⟨w.heap.size, 1, none⟩ = some (.string ⟨#[100, 111, 99, 58, 97, 35, 118, 105, 101, 119, 101, 114, 64, 103, 114, 111, 117, 112, 58, 103, 35, 109, 101, 109, 98, 101, 114]⟩) := (own_cells hw _ (by simp) _).1.trans (by go_simp)
    have c2 : wr.cell? ⟨w.heap.size, 2, none⟩ = some (.string ⟨#[100, 111, 99, 58, 98, 35, 118, 105, 101, 119, 101, 114, 64, 117, 115, 101, 114, 58, 120]⟩) := (own_cells hw _ (by simp) _).1.trans (by go_simp)
    have HO := hid hown; clear hown
    have hzr : w.heap.size + 1 ≤ wr.heap.size := by have := hw.size; simpa using this
    by_cases hlt : k < 3
    · rcases (show k = 0 ∨ k = 1 ∨ k = 2 by omega) with rfl | rfl | rfl <;> clear hk hlt
      · go_wp2_with fail
        refine (rtparse_x ⟨#[100, 111, 99, 58, 97, 35, 118, 105, 101, 119, 101, 114, 64, 117, 115, 101, 114, 58, 120]⟩ t0 _ (by decide) lr0).mono ?_
        rintro r w1 ⟨rfl, hw1⟩
        simp only [t0]
        have hO1 := HO.out.below hw1
        have hz1 := hw1.size
        clear c0 c1 c2
        go_wp2_with (at_builtin; refine wp_app _ _ rfl rfl (w.heap.size + 1) _ (smallL.take 0) (w1.heap.size + 1) 1 t0 rfl rfl ((hO1.below (g_alloc g_refl _)).below (g_alloc g_refl _)) (new_cells1 w1 _ t0 _) (by decide) (by simp; omega) ?_)
        intro v5 w5 hown5 hg5 hd5
        have hsz := (g_trans hw hw1).size
        have hw5 : Below (w.alloc (.cells #[.string ⟨#[100, 111, 99, 58, 97, 35, 118, 105, 101, 119, 101, 114, 64, 117, 115, 101, 114, 58, 120]⟩, .string ⟨#[100, 111, 99, 58, 97, 35, 118, 105, 101, 119, 101, 114, 64, 103, 114, 111, 117, 112, 58, 103, 35, 109, 101, 109, 98, 101, 114]⟩, .string ⟨#[100, 111, 99, 58, 98, 35, 118, 105, 101, 119, 101, 114, 64, 117, 115, 101, 114, 58, 120]⟩] 9)).heap.size (w.alloc (.cells #[.string ⟨#[100, 111, 99, 58, 97, 35, 118, 105, 101, 119, 101, 114, 64, 117, 115, 101, 114, 58, 120]⟩, .string ⟨#[100, 111, 99, 58, 97, 35, 118, 105, 101, 119, 101, 114, 64, 103, 114, 111, 117, 112, 58, 103, 35, 109, 101, 109, 98, 101, 114]⟩, .string ⟨#[100, 111, 99, 58, 98, 35, 118, 105, 101, 119, 101, 114, 64, 117, 115, 101, 114, 58, 120]⟩] 9)) w5 := by
          refine Below.grown (g_alloc (g_alloc (g_trans hw hw1) _) _) hg5 ?_ fun g hg => ?_
          · simp at hsz ⊢; omega
          · have := (hO1.lt g hg).1; simpa using this
        go_wp2
        go_roundw
        case rel => exact ⟨0+1, by omega, by go_num, hown5, hw5⟩
        case measure => simp [intOf]
      · go_wp2_with fail
        refine (rtparse_x ⟨#[100, 111, 99, 58, 97, 35, 118, 105, 101, 119, 101, 114, 64, 103, 114, 111, 117, 112, 58, 103, 35, 109, 101, 109, 98, 101, 114]⟩ t1 _ (by decide) lr1).mono ?_
        rintro r w1 ⟨rfl, hw1⟩
        simp only [t1]
        have hO1 := HO.out.below hw1
        have hz1 := hw1.size
        clear c0 c1 c2
        go_wp2_with (at_builtin; refine wp_app _ _ rfl rfl (w.heap.size + 1) _ (smallL.take 1) (w1.heap.size + 1) 1 t1 rfl rfl ((hO1.below (g_alloc g_refl _)).below (g_alloc g_refl _)) (new_cells1 w1 _ t1 _) (by decide) (by simp; omega) ?_)
        intro v5 w5 hown5 hg5 hd5
        have hsz := (g_trans hw hw1).size
        have hw5 : Below (w.alloc (.cells #[.string ⟨#[100, 111, 99, 58, 97, 35, 118, 105, 101, 119, 101, 114, 64, 117, 115, 101, 114, 58, 120]⟩, .string ⟨#[100, 111, 99, 58, 97, 35, 118, 105, 101, 119, 101, 114, 64, 103, 114, 111, 117, 112, 58, 103, 35, 109, 101, 109, 98, 101, 114]⟩, .string ⟨#[100, 111, 99, 58, 98, 35, 118, 105, 101, 119, 101, 114, 64, 117, 115, 101, 114, 58, 120]⟩] 9)).heap.size (w.alloc (.cells #[.string ⟨#[100, 111, 99, 58, 97, 35, 118, 105, 101, 119, 101, 114, 64, 117, 115, 101, 114, 58, 120]⟩, .string ⟨#[100, 111, 99, 58, 97, 35, 118, 105, 101, 119, 101, 114, 64, 103, 114, 111, 117, 112, 58, 103, 35, 109, 101, 109, 98, 101, 114]⟩, .string ⟨#[100, 111, 99, 58, 98, 35, 118, 105, 101, 119, 101, 114, 64, 117, 115, 101, 114, 58, 120]⟩] 9)) w5 := by
          refine Below.grown (g_alloc (g_alloc (g_trans hw hw1) _) _) hg5 ?_ fun g hg => ?_
          · simp at hsz ⊢; omega
          · have := (hO1.lt g hg).1; simpa using this
        go_wp2
        go_roundw
        case rel => exact ⟨1+1, by omega, by go_num, hown5, hw5⟩
        case measure => simp [intOf]
      · go_wp2_with fail
        refine (rtparse_x ⟨#[100, 111, 99, 58, 98, 35, 118, 105, 101, 119, 101, 114, 64, 117, 115, 101, 114, 58, 120]⟩ t2 _ (by decide) lr2).mono ?_
        rintro r w1 ⟨rfl, hw1⟩
        simp only [t2]
        have hO1 := HO.out.below hw1
        have hz1 := hw1.size
        clear c0 c1 c2
        go_wp2_with (at_builtin; refine wp_app _ _ rfl rfl (w.heap.size + 1) _ (smallL.take 2) (w1.heap.size + 1) 1 t2 rfl rfl ((hO1.below (g_alloc g_refl _)).below (g_alloc g_refl _)) (new_cells1 w1 _ t2 _) (by decide) (by simp; omega) ?_)
        intro v5 w5 hown5 hg5 hd5
        have hsz := (g_trans hw hw1).size
        have hw5 : Below (w.alloc (.cells #[.string ⟨#[100, 111, 99, 58, 97, 35, 118, 105, 101, 119, 101, 114, 64, 117, 115, 101, 114, 58, 120]⟩, .string ⟨#[100, 111, 99, 58, 97, 35, 118, 105, 101, 119, 101, 114, 64, 103, 114, 111, 117, 112, 58, 103, 35, 109, 101, 109, 98, 101, 114]⟩, .string ⟨#[100, 111, 99, 58, 98, 35, 118, 105, 101, 119, 101, 114, 64, 117, 115, 101, 114, 58, 120]⟩] 9)).heap.size (w.alloc (.cells #[.string ⟨#[100, 111, 99, 58, 97, 35, 118, 105, 101, 119, 101, 114, 64, 117, 115, 101, 114, 58, 120]⟩, .string ⟨#[100, 111, 99, 58, 97, 35, 118, 105, 101, 119, 101, 114, 64, 103, 114, 111, 117, 112, 58, 103, 35, 109, 101, 109, 98, 101, 114]⟩, .string ⟨#[100, 111, 99, 58, 98, 35, 118, 105, 101, 119, 101, 114, 64, 117, 115, 101, 114, 58, 120]⟩] 9)) w5 := by
          refine Below.grown (g_alloc (g_alloc (g_trans hw hw1) _) _) hg5 ?_ fun g hg => ?_
          · simp at hsz ⊢; omega
          · have := (hO1.lt g hg).1; simpa using this
        go_wp2
        go_roundw
        case rel => exact ⟨2+1, by omega, by go_num, hown5, hw5⟩
        case measure => simp [intOf]
    · obtain rfl : k = 3 := by omega
      have hO := HO.out
      go_wp2
      go_ret
      exact ⟨_, rfl, hO.mono (Nat.le_succ _), g_trans (g_alloc g_refl _) hw⟩
/-- the set of them, in order; and without the last -/
def sortL : List Tup := [t1, t0, t2]
theorem of_small : ofF [] smallL = (sortL, 0) := by decide +kernel
theorem wth_small : wth sortL t2 true = ([t1, t0], 0) := by decide +kernel
theorem fit0 : ∀ t ∈ smallL, Fits t := fun t h => ok_fits (by
  have : ∀ t ∈ smallL, okT t = true := by decide +kernel
  exact this t h)
theorem ok_sort : ∀ t ∈ sortL, okT t = true := by decide +kernel
theorem fX_par : fpar ⟨#[100, 111, 99, 58, 42, 35, 42]⟩ = (⟨⟨#[100, 111, 99]⟩, ⟨#[]⟩, ⟨#[]⟩, ⟨#[]⟩, ⟨#[]⟩, ⟨#[]⟩, false⟩, 0) := by decide +kernel
theorem fparse_x (s : ByteArray) (a b c d e f : ByteArray) (x : Bool) (n : Int) (w : World) (hs : s.size ≤ maxLen) (h : fpar s = (⟨a, b, c, d, e, f, x⟩, n)) :
    Calls Try.prog 37 #[.string s] w fun r w' => r = .returned (.tuple #[.agg #[.string a, .string b, .string c, .string d, .string e, .string f, .bool x], .int .i64 n]) ∧ Below w.heap.size w w' := by
  have q := fparse s w hs; unfold FParRet at q; rw [h] at q; exact q
set_option maxRecDepth 20000 in
set_option maxHeartbeats 2000000 in
theorem of_nil (w : World) : Calls Try.prog 7 #[.slice none 0 0] w fun e w' => e = .returned (.tuple #[.agg #[.nilFunc, .pointer none], .int .i64 0]) ∧ Below w.heap.size w w' := by
  have hb0 : Below w.heap.size w ((w.alloc (.cells #[.nilFunc, .pointer none] 35 (0, 0))).alloc (.cells #[.nilFunc, .pointer none] 35 (0, 0))) := g_alloc (g_alloc g_refl _) _
  have HB0 := hid hb0
  clear hb0
  go_enter Try.func7, Try.ntmps7
  go_wp2
  go_loopw [11] (fun i wr => i = .int .i64 0 ∧ wr = (w.alloc (.cells #[.nilFunc, .pointer none] 35 (0, 0))).alloc (.cells #[.nilFunc, .pointer none] 35 (0, 0))) (fun _ _ => 0)
  case atStart => exact ⟨rfl, rfl⟩
  case round =>
    obtain ⟨rfl, rfl⟩ := hrel
    go_wp2
    refine bodyPost_ret (v := .tuple #[.agg #[.nilFunc, .pointer none], .int .i64 0]) ?_ rfl ?_
    · simp [results, Try.results7, go_sem]
    · exact ⟨rfl, HB0.out⟩
/-- the cells of the three -/
def SC (w : World) (g : Nat) : Prop := w.cell? ⟨g, 0, none⟩ = some (.string ⟨#[100, 111, 99]⟩) ∧ w.cell? ⟨g, 1, none⟩ = some (.string ⟨#[97]⟩) ∧ w.cell? ⟨g, 2, none⟩ = some (.string ⟨#[118, 105, 101, 119, 101, 114]⟩) ∧ w.cell? ⟨g, 3, none⟩ = some (.string ⟨#[117, 115, 101, 114]⟩) ∧ w.cell? ⟨g, 4, none⟩ = some (.string ⟨#[120]⟩) ∧ w.cell? ⟨g, 5, none⟩ = some (.string ⟨#[]⟩) ∧ w.cell? ⟨g, 6, none⟩ = some (.string ⟨#[100, 111, 99]⟩) ∧ w.cell? ⟨g, 7, none⟩ = some (.string ⟨#[97]⟩) ∧ w.cell? ⟨g, 8, none⟩ = some (.string ⟨#[118, 105, 101, 119, 101, 114]⟩) ∧ w.cell? ⟨g, 9, none⟩ = some (.string ⟨#[103, 114, 111, 117, 112]⟩) ∧ w.cell? ⟨g, 10, none⟩ = some (.string ⟨#[103]⟩) ∧ w.cell? ⟨g, 11, none⟩ = some (.string ⟨#[109, 101, 109, 98, 101, 114]⟩) ∧ w.cell? ⟨g, 12, none⟩ = some (.string ⟨#[100, 111, 99]⟩) ∧ w.cell? ⟨g, 13, none⟩ = some (.string ⟨#[98]⟩) ∧ w.cell? ⟨g, 14, none⟩ = some (.string ⟨#[118, 105, 101, 119, 101, 114]⟩) ∧ w.cell? ⟨g, 15, none⟩ = some (.string ⟨#[117, 115, 101, 114]⟩) ∧ w.cell? ⟨g, 16, none⟩ = some (.string ⟨#[120]⟩) ∧ w.cell? ⟨g, 17, none⟩ = some (.string ⟨#[]⟩)
theorem sm_cells {w : World} {g : Nat} (h : Row w (some ⟨g, 0, none⟩) smallL) : SC w g := by
  obtain ⟨b, o, e, hL⟩ := h (by decide)
  injection e with e
  injection e with e1 e2
  subst e1; subst e2
  have c := fun i (hi : i < 3) j v hv => hL.2 i hi j v hv
  exact ⟨c 0 (by decide) 0 _ rfl, c 0 (by decide) 1 _ rfl, c 0 (by decide) 2 _ rfl, c 0 (by decide) 3 _ rfl, c 0 (by decide) 4 _ rfl, c 0 (by decide) 5 _ rfl, c 1 (by decide) 0 _ rfl, c 1 (by decide) 1 _ rfl, c 1 (by decide) 2 _ rfl, c 1 (by decide) 3 _ rfl, c 1 (by decide) 4 _ rfl, c 1 (by decide) 5 _ rfl, c 2 (by decide) 0 _ rfl, c 2 (by decide) 1 _ rfl, c 2 (by decide) 2 _ rfl, c 2 (by decide) 3 _ rfl, c 2 (by decide) 4 _ rfl, c 2 (by decide) 5 _ rfl⟩
theorem keep18 {a b : World} {p0 p1 p2 p3 p4 p5 p6 p7 p8 p9 p10 p11 p12 p13 p14 p15 p16 p17 o0 o1 o2 o3 o4 o5 o6 o7 o8 o9 o10 o11 o12 o13 o14 o15 o16 o17 : Nat} {x0 x1 x2 x3 x4 x5 x6 x7 x8 x9 x10 x11 x12 x13 x14 x15 x16 x17 : Value} (h : Below a.heap.size a b)
    (s : a.cell? ⟨p0, o0, none⟩ = some x0 ∧ a.cell? ⟨p1, o1, none⟩ = some x1 ∧ a.cell? ⟨p2, o2, none⟩ = some x2 ∧ a.cell? ⟨p3, o3, none⟩ = some x3 ∧ a.cell? ⟨p4, o4, none⟩ = some x4 ∧ a.cell? ⟨p5, o5, none⟩ = some x5 ∧ a.cell? ⟨p6, o6, none⟩ = some x6 ∧ a.cell? ⟨p7, o7, none⟩ = some x7 ∧ a.cell? ⟨p8, o8, none⟩ = some x8 ∧ a.cell? ⟨p9, o9, none⟩ = some x9 ∧ a.cell? ⟨p10, o10, none⟩ = some x10 ∧ a.cell? ⟨p11, o11, none⟩ = some x11 ∧ a.cell? ⟨p12, o12, none⟩ = some x12 ∧ a.cell? ⟨p13, o13, none⟩ = some x13 ∧ a.cell? ⟨p14, o14, none⟩ = some x14 ∧ a.cell? ⟨p15, o15, none⟩ = some x15 ∧ a.cell? ⟨p16, o16, none⟩ = some x16 ∧ a.cell? ⟨p17, o17, none⟩ = some x17) :
    b.cell? ⟨p0, o0, none⟩ = some x0 ∧ b.cell? ⟨p1, o1, none⟩ = some x1 ∧ b.cell? ⟨p2, o2, none⟩ = some x2 ∧ b.cell? ⟨p3, o3, none⟩ = some x3 ∧ b.cell? ⟨p4, o4, none⟩ = some x4 ∧ b.cell? ⟨p5, o5, none⟩ = some x5 ∧ b.cell? ⟨p6, o6, none⟩ = some x6 ∧ b.cell? ⟨p7, o7, none⟩ = some x7 ∧ b.cell? ⟨p8, o8, none⟩ = some x8 ∧ b.cell? ⟨p9, o9, none⟩ = some x9 ∧ b.cell? ⟨p10, o10, none⟩ = some x10 ∧ b.cell? ⟨p11, o11, none⟩ = some x11 ∧ b.cell? ⟨p12, o12, none⟩ = some x12 ∧ b.cell? ⟨p13, o13, none⟩ = some x13 ∧ b.cell? ⟨p14, o14, none⟩ = some x14 ∧ b.cell? ⟨p15, o15, none⟩ = some x15 ∧ b.cell? ⟨p16, o16, none⟩ = some x16 ∧ b.cell? ⟨p17, o17, none⟩ = some x17 :=
  ⟨keep1 h s.1, keep1 h s.2.1, keep1 h s.2.2.1, keep1 h s.2.2.2.1, keep1 h s.2.2.2.2.1, keep1 h s.2.2.2.2.2.1, keep1 h s.2.2.2.2.2.2.1, keep1 h s.2.2.2.2.2.2.2.1, keep1 h s.2.2.2.2.2.2.2.2.1, keep1 h s.2.2.2.2.2.2.2.2.2.1, keep1 h s.2.2.2.2.2.2.2.2.2.2.1, keep1 h s.2.2.2.2.2.2.2.2.2.2.2.1, keep1 h s.2.2.2.2.2.2.2.2.2.2.2.2.1, keep1 h s.2.2.2.2.2.2.2.2.2.2.2.2.2.1, keep1 h s.2.2.2.2.2.2.2.2.2.2.2.2.2.2.1, keep1 h s.2.2.2.2.2.2.2.2.2.2.2.2.2.2.2.1, keep1 h s.2.2.2.2.2.2.2.2.2.2.2.2.2.2.2.2.1, keep1 h s.2.2.2.2.2.2.2.2.2.2.2.2.2.2.2.2.2⟩
theorem keep27 {a b : World} {p0 p1 p2 p3 p4 p5 p6 p7 p8 p9 p10 p11 p12 p13 p14 p15 p16 p17 p18 p19 p20 p21 p22 p23 p24 p25 p26 o0 o1 o2 o3 o4 o5 o6 o7 o8 o9 o10 o11 o12 o13 o14 o15 o16 o17 o18 o19 o20 o21 o22 o23 o24 o25 o26 : Nat} {x0 x1 x2 x3 x4 x5 x6 x7 x8 x9 x10 x11 x12 x13 x14 x15 x16 x17 x18 x19 x20 x21 x22 x23 x24 x25 x26 : Value} (h : Below a.heap.size a b)
    (s : a.cell? ⟨p0, o0, none⟩ = some x0 ∧ a.cell? ⟨p1, o1, none⟩ = some x1 ∧ a.cell? ⟨p2, o2, none⟩ = some x2 ∧ a.cell? ⟨p3, o3, none⟩ = some x3 ∧ a.cell? ⟨p4, o4, none⟩ = some x4 ∧ a.cell? ⟨p5, o5, none⟩ = some x5 ∧ a.cell? ⟨p6, o6, none⟩ = some x6 ∧ a.cell? ⟨p7, o7, none⟩ = some x7 ∧ a.cell? ⟨p8, o8, none⟩ = some x8 ∧ a.cell? ⟨p9, o9, none⟩ = some x9 ∧ a.cell? ⟨p10, o10, none⟩ = some x10 ∧ a.cell? ⟨p11, o11, none⟩ = some x11 ∧ a.cell? ⟨p12, o12, none⟩ = some x12 ∧ a.cell? ⟨p13, o13, none⟩ = some x13 ∧ a.cell? ⟨p14, o14, none⟩ = some x14 ∧ a.cell? ⟨p15, o15, none⟩ = some x15 ∧ a.cell? ⟨p16, o16, none⟩ = some x16 ∧ a.cell? ⟨p17, o17, none⟩ = some x17 ∧ a.cell? ⟨p18, o18, none⟩ = some x18 ∧ a.cell? ⟨p19, o19, none⟩ = some x19 ∧ a.cell? ⟨p20, o20, none⟩ = some x20 ∧ a.cell? ⟨p21, o21, none⟩ = some x21 ∧ a.cell? ⟨p22, o22, none⟩ = some x22 ∧ a.cell? ⟨p23, o23, none⟩ = some x23 ∧ a.cell? ⟨p24, o24, none⟩ = some x24 ∧ a.cell? ⟨p25, o25, none⟩ = some x25 ∧ a.cell? ⟨p26, o26, none⟩ = some x26) :
    b.cell? ⟨p0, o0, none⟩ = some x0 ∧ b.cell? ⟨p1, o1, none⟩ = some x1 ∧ b.cell? ⟨p2, o2, none⟩ = some x2 ∧ b.cell? ⟨p3, o3, none⟩ = some x3 ∧ b.cell? ⟨p4, o4, none⟩ = some x4 ∧ b.cell? ⟨p5, o5, none⟩ = some x5 ∧ b.cell? ⟨p6, o6, none⟩ = some x6 ∧ b.cell? ⟨p7, o7, none⟩ = some x7 ∧ b.cell? ⟨p8, o8, none⟩ = some x8 ∧ b.cell? ⟨p9, o9, none⟩ = some x9 ∧ b.cell? ⟨p10, o10, none⟩ = some x10 ∧ b.cell? ⟨p11, o11, none⟩ = some x11 ∧ b.cell? ⟨p12, o12, none⟩ = some x12 ∧ b.cell? ⟨p13, o13, none⟩ = some x13 ∧ b.cell? ⟨p14, o14, none⟩ = some x14 ∧ b.cell? ⟨p15, o15, none⟩ = some x15 ∧ b.cell? ⟨p16, o16, none⟩ = some x16 ∧ b.cell? ⟨p17, o17, none⟩ = some x17 ∧ b.cell? ⟨p18, o18, none⟩ = some x18 ∧ b.cell? ⟨p19, o19, none⟩ = some x19 ∧ b.cell? ⟨p20, o20, none⟩ = some x20 ∧ b.cell? ⟨p21, o21, none⟩ = some x21 ∧ b.cell? ⟨p22, o22, none⟩ = some x22 ∧ b.cell? ⟨p23, o23, none⟩ = some x23 ∧ b.cell? ⟨p24, o24, none⟩ = some x24 ∧ b.cell? ⟨p25, o25, none⟩ = some x25 ∧ b.cell? ⟨p26, o26, none⟩ = some x26 :=
  ⟨keep1 h s.1, keep1 h s.2.1, keep1 h s.2.2.1, keep1 h s.2.2.2.1, keep1 h s.2.2.2.2.1, keep1 h s.2.2.2.2.2.1, keep1 h s.2.2.2.2.2.2.1, keep1 h s.2.2.2.2.2.2.2.1, keep1 h s.2.2.2.2.2.2.2.2.1, keep1 h s.2.2.2.2.2.2.2.2.2.1, keep1 h s.2.2.2.2.2.2.2.2.2.2.1, keep1 h s.2.2.2.2.2.2.2.2.2.2.2.1, keep1 h s.2.2.2.2.2.2.2.2.2.2.2.2.1, keep1 h s.2.2.2.2.2.2.2.2.2.2.2.2.2.1, keep1 h s.2.2.2.2.2.2.2.2.2.2.2.2.2.2.1, keep1 h s.2.2.2.2.2.2.2.2.2.2.2.2.2.2.2.1, keep1 h s.2.2.2.2.2.2.2.2.2.2.2.2.2.2.2.2.1, keep1 h s.2.2.2.2.2.2.2.2.2.2.2.2.2.2.2.2.2.1, keep1 h s.2.2.2.2.2.2.2.2.2.2.2.2.2.2.2.2.2.2.1, keep1 h s.2.2.2.2.2.2.2.2.2.2.2.2.2.2.2.2.2.2.2.1, keep1 h s.2.2.2.2.2.2.2.2.2.2.2.2.2.2.2.2.2.2.2.2.1, keep1 h s.2.2.2.2.2.2.2.2.2.2.2.2.2.2.2.2.2.2.2.2.2.1, keep1 h s.2.2.2.2.2.2.2.2.2.2.2.2.2.2.2.2.2.2.2.2.2.2.1, keep1 h s.2.2.2.2.2.2.2.2.2.2.2.2.2.2.2.2.2.2.2.2.2.2.2.1, keep1 h s.2.2.2.2.2.2.2.2.2.2.2.2.2.2.2.2.2.2.2.2.2.2.2.2.1, keep1 h s.2.2.2.2.2.2.2.2.2.2.2.2.2.2.2.2.2.2.2.2.2.2.2.2.2.1, keep1 h s.2.2.2.2.2.2.2.2.2.2.2.2.2.2.2.2.2.2.2.2.2.2.2.2.2.2⟩
theorem keep10 {a b : World} {p0 p1 p2 p3 p4 p5 p6 p7 p8 p9 o0 o1 o2 o3 o4 o5 o6 o7 o8 o9 : Nat} {x0 x1 x2 x3 x4 x5 x6 x7 x8 x9 : Value} (h : Below a.heap.size a b)
    (s : a.cell? ⟨p0, o0, none⟩ = some x0 ∧ a.cell? ⟨p1, o1, none⟩ = some x1 ∧ a.cell? ⟨p2, o2, none⟩ = some x2 ∧ a.cell? ⟨p3, o3, none⟩ = some x3 ∧ a.cell? ⟨p4, o4, none⟩ = some x4 ∧ a.cell? ⟨p5, o5, none⟩ = some x5 ∧ a.cell? ⟨p6, o6, none⟩ = some x6 ∧ a.cell? ⟨p7, o7, none⟩ = some x7 ∧ a.cell? ⟨p8, o8, none⟩ = some x8 ∧ a.cell? ⟨p9, o9, none⟩ = some x9) :
    b.cell? ⟨p0, o0, none⟩ = some x0 ∧ b.cell? ⟨p1, o1, none⟩ = some x1 ∧ b.cell? ⟨p2, o2, none⟩ = some x2 ∧ b.cell? ⟨p3, o3, none⟩ = some x3 ∧ b.cell? ⟨p4, o4, none⟩ = some x4 ∧ b.cell? ⟨p5, o5, none⟩ = some x5 ∧ b.cell? ⟨p6, o6, none⟩ = some x6 ∧ b.cell? ⟨p7, o7, none⟩ = some x7 ∧ b.cell? ⟨p8, o8, none⟩ = some x8 ∧ b.cell? ⟨p9, o9, none⟩ = some x9 :=
  ⟨keep1 h s.1, keep1 h s.2.1, keep1 h s.2.2.1, keep1 h s.2.2.2.1, keep1 h s.2.2.2.2.1, keep1 h s.2.2.2.2.2.1, keep1 h s.2.2.2.2.2.2.1, keep1 h s.2.2.2.2.2.2.2.1, keep1 h s.2.2.2.2.2.2.2.2.1, keep1 h s.2.2.2.2.2.2.2.2.2⟩
def LF (w : World) (g b2 b4 : Nat) (T : Tr) : Prop := w.cell? ⟨g, 0, none⟩ = some (.string ⟨#[100, 111, 99]⟩) ∧ w.cell? ⟨g, 1, none⟩ = some (.string ⟨#[97]⟩) ∧ w.cell? ⟨g, 2, none⟩ = some (.string ⟨#[118, 105, 101, 119, 101, 114]⟩) ∧ w.cell? ⟨g, 3, none⟩ = some (.string ⟨#[117, 115, 101, 114]⟩) ∧ w.cell? ⟨g, 4, none⟩ = some (.string ⟨#[120]⟩) ∧ w.cell? ⟨g, 5, none⟩ = some (.string ⟨#[]⟩) ∧ w.cell? ⟨g, 6, none⟩ = some (.string ⟨#[100, 111, 99]⟩) ∧ w.cell? ⟨g, 7, none⟩ = some (.string ⟨#[97]⟩) ∧ w.cell? ⟨g, 8, none⟩ = some (.string ⟨#[118, 105, 101, 119, 101, 114]⟩) ∧ w.cell? ⟨g, 9, none⟩ = some (.string ⟨#[103, 114, 111, 117, 112]⟩) ∧ w.cell? ⟨g, 10, none⟩ = some (.string ⟨#[103]⟩) ∧ w.cell? ⟨g, 11, none⟩ = some (.string ⟨#[109, 101, 109, 98, 101, 114]⟩) ∧ w.cell? ⟨g, 12, none⟩ = some (.string ⟨#[100, 111, 99]⟩) ∧ w.cell? ⟨g, 13, none⟩ = some (.string ⟨#[98]⟩) ∧ w.cell? ⟨g, 14, none⟩ = some (.string ⟨#[118, 105, 101, 119, 101, 114]⟩) ∧ w.cell? ⟨g, 15, none⟩ = some (.string ⟨#[117, 115, 101, 114]⟩) ∧ w.cell? ⟨g, 16, none⟩ = some (.string ⟨#[120]⟩) ∧ w.cell? ⟨g, 17, none⟩ = some (.string ⟨#[]⟩) ∧ w.cell? ⟨b2, 0, none⟩ = some (.func (.func 31) #[] #[]) ∧ w.cell? ⟨b2, 1, none⟩ = some (.pointer T.ad) ∧ w.cell? ⟨b4, 0, none⟩ = some (.string ⟨#[100, 111, 99]⟩) ∧ w.cell? ⟨b4, 1, none⟩ = some (.string ⟨#[]⟩) ∧ w.cell? ⟨b4, 2, none⟩ = some (.string ⟨#[]⟩) ∧ w.cell? ⟨b4, 3, none⟩ = some (.string ⟨#[]⟩) ∧ w.cell? ⟨b4, 4, none⟩ = some (.string ⟨#[]⟩) ∧ w.cell? ⟨b4, 5, none⟩ = some (.string ⟨#[]⟩) ∧ w.cell? ⟨b4, 6, none⟩ = some (.bool false)
theorem of_small_l (g cap : Nat) (w : World) (h : Row w (some ⟨g, 0, none⟩) smallL) :
    Calls Try.prog 7 #[.slice (some ⟨g, 0, none⟩) 3 cap] w (GivesS w (sortL, 0)) := by
  have q := of_l (some ⟨g, 0, none⟩) smallL cap h fit0 (by decide)
  rw [of_small] at q; exact q
theorem fit2 : Fits t2 := ok_fits (by decide +kernel)
theorem with_small {w : World} {T : Tr} (h : MapL w fv T sortL) :
    Calls Try.prog 11 #[.agg #[.func (.func 31) #[] #[], .pointer T.ad], .agg #[.string ⟨#[100, 111, 99]⟩, .string ⟨#[98]⟩, .string ⟨#[118, 105, 101, 119, 101, 114]⟩, .string ⟨#[117, 115, 101, 114]⟩, .string ⟨#[120]⟩, .string ⟨#[]⟩, .bool true]] w fun e w' => ∃ T2 : Tr, e = .returned (.tuple #[.agg #[.func (.func 31) #[] #[], .pointer T2.ad], .int .i64 0]) ∧ MapL w' fv T2 [t1, t0] ∧ Below w.heap.size w w' := by
  have q := with_l t2 true fit2 h (by decide)
  rw [wth_small] at q
  refine Calls.mono (show Calls Try.prog 11 #[.agg #[.func (.func 31) #[] #[], .pointer T.ad], .agg #[.string ⟨#[100, 111, 99]⟩, .string ⟨#[98]⟩, .string ⟨#[118, 105, 101, 119, 101, 114]⟩, .string ⟨#[117, 115, 101, 114]⟩, .string ⟨#[120]⟩, .string ⟨#[]⟩, .bool true]] w _ from q) ?_
  rintro _ _ ⟨ov, T2, rfl, hL, hb⟩
  obtain rfl := hL.full (by decide)
  exact ⟨T2, rfl, hL, hb⟩
theorem with_zero (T : Tr) (w : World) :
    Calls Try.prog 11 #[.agg #[.func (.func 31) #[] #[], .pointer T.ad], .agg #[.string ⟨#[]⟩, .string ⟨#[]⟩, .string ⟨#[]⟩, .string ⟨#[]⟩, .string ⟨#[]⟩, .string ⟨#[]⟩, .bool false]] w fun e w' => e = .returned (.tuple #[.agg #[.nilFunc, .pointer none], .int .i64 6]) ∧ Below w.heap.size w w' :=
  with_bad0 (T := T) ⟨⟨#[]⟩, ⟨#[]⟩, ⟨#[]⟩, ⟨#[]⟩, ⟨#[]⟩, ⟨#[]⟩⟩ ⟨Nat.zero_le _, Nat.zero_le _, Nat.zero_le _, Nat.zero_le _, Nat.zero_le _, Nat.zero_le _⟩ false (by decide +kernel)
theorem lv_len {w : World} {T : Tr} (h : MapL w fv T sortL) :
    Calls Try.prog 23 #[.agg #[.func (.func 31) #[] #[], .pointer T.ad]] w fun e w' => e = .returned (.int .i64 3) ∧ Below w.heap.size w w' := len_l h
theorem lv_list {w : World} {T : Tr} (h : MapL w fv T sortL) :
    Calls Try.prog 18 #[.agg #[.func (.func 31) #[] #[], .pointer T.ad]] w fun e w' => ∃ A, e = .returned (.slice A 3 3) ∧ Row w' A sortL ∧ Below w.heap.size w w' := list_r h (by decide)
theorem lv_same (A C : Option Addr) (c d : Nat) (w : World) (h : Row w A sortL) (k : Row w C sortL) :
    Calls Try.prog 15 #[.slice A 3 c, .slice C 3 d] w fun e w' => e = .returned (.int .i64 1) ∧ Below w.heap.size w w' := rsame_f A C sortL sortL c d w 3 1 h k rfl rfl (by decide) (by decide +kernel)
theorem lv_set {w : World} {T : Tr} (h : MapL w fv T sortL) : SetL w fv T sortL := ⟨h, ok_sort, by decide⟩
theorem lv_goal {w : World} {T : Tr} (h : MapL w fv T sortL) :
    Calls Try.prog 19 #[.agg #[.func (.func 31) #[] #[], .pointer T.ad], .agg #[.string ⟨#[100, 111, 99]⟩, .string ⟨#[97]⟩, .string ⟨#[118, 105, 101, 119, 101, 114]⟩]] w fun e w' => ∃ A, e = .returned (.slice A 2 2) ∧ Below w.heap.size w w' := by
  refine (goal_l ⟨#[100, 111, 99]⟩ ⟨#[97]⟩ ⟨#[118, 105, 101, 119, 101, 114]⟩ (lv_set h) (by decide) (by decide) (by decide)).mono ?_
  rintro _ _ ⟨A, rfl, -, hb⟩
  have e : (ofG ⟨#[100, 111, 99]⟩ ⟨#[97]⟩ ⟨#[118, 105, 101, 119, 101, 114]⟩ sortL).length = 2 := by decide +kernel
  exact ⟨A, by rw [e], hb⟩
theorem lv_sub {w : World} {T : Tr} (h : MapL w fv T sortL) :
    Calls Try.prog 20 #[.agg #[.func (.func 31) #[] #[], .pointer T.ad], .agg #[.string ⟨#[117, 115, 101, 114]⟩, .string ⟨#[120]⟩, .string ⟨#[]⟩]] w fun e w' => ∃ A, e = .returned (.slice A 2 2) ∧ Below w.heap.size w w' := by
  refine (subject_l ⟨#[117, 115, 101, 114]⟩ ⟨#[120]⟩ ⟨#[]⟩ (lv_set h) (by decide) (by decide) (by decide)).mono ?_
  rintro _ _ ⟨A, rfl, -, hb⟩
  have e : (ofU ⟨#[117, 115, 101, 114]⟩ ⟨#[120]⟩ ⟨#[]⟩ sortL).length = 2 := by decide +kernel
  exact ⟨A, by rw [e], hb⟩
theorem lv_match {w : World} {T : Tr} (h : MapL w fv T sortL) :
    Calls Try.prog 21 #[.agg #[.func (.func 31) #[] #[], .pointer T.ad], .agg #[.string ⟨#[100, 111, 99]⟩, .string ⟨#[]⟩, .string ⟨#[]⟩, .string ⟨#[]⟩, .string ⟨#[]⟩, .string ⟨#[]⟩, .bool false]] w fun e w' => ∃ A, e = .returned (.slice A 3 3) ∧ Below w.heap.size w w' := by
  refine (match_l ⟨⟨#[100, 111, 99]⟩, ⟨#[]⟩, ⟨#[]⟩, ⟨#[]⟩, ⟨#[]⟩, ⟨#[]⟩, false⟩ (lv_set h) ⟨by decide, by decide, by decide, by decide, by decide, by decide⟩).mono ?_
  rintro _ _ ⟨A, rfl, -, hb⟩
  have e : (mtc ⟨⟨#[100, 111, 99]⟩, ⟨#[]⟩, ⟨#[]⟩, ⟨#[]⟩, ⟨#[]⟩, ⟨#[]⟩, false⟩ sortL).length = 3 := by decide +kernel
  exact ⟨A, by rw [e], hb⟩
theorem lv_goals {w : World} {T : Tr} (h : MapL w fv T [t1, t0]) :
    Calls Try.prog 24 #[.agg #[.func (.func 31) #[] #[], .pointer T.ad]] w fun e w' => ∃ A, e = .returned (.slice A 1 1) ∧ RowG w' A [glT t0] ∧ Below w.heap.size w w' := by
  have q := goals_l h (by decide)
  have e : gls [t1, t0] = [glT t0] := by decide +kernel
  rw [e] at q; exact q
theorem lv_len2 {w : World} {T : Tr} (h : MapL w fv T [t1, t0]) :
    Calls Try.prog 23 #[.agg #[.func (.func 31) #[] #[], .pointer T.ad]] w fun e w' => e = .returned (.int .i64 2) ∧ Below w.heap.size w w' := len_l h
theorem lv_len0 (w : World) :
    Calls Try.prog 23 #[.agg #[.nilFunc, .pointer none]] w fun e w' => e = .returned (.int .i64 0) ∧ Below w.heap.size w w' := len_n (MapL.zero w)
theorem row_sort (w : World) : Row (w.alloc (.cells #[.string ⟨#[100, 111, 99]⟩, .string ⟨#[97]⟩, .string ⟨#[118, 105, 101, 119, 101, 114]⟩, .string ⟨#[103, 114, 111, 117, 112]⟩, .string ⟨#[103]⟩, .string ⟨#[109, 101, 109, 98, 101, 114]⟩, .string ⟨#[100, 111, 99]⟩, .string ⟨#[97]⟩, .string ⟨#[118, 105, 101, 119, 101, 114]⟩, .string ⟨#[117, 115, 101, 114]⟩, .string ⟨#[120]⟩, .string ⟨#[]⟩, .string ⟨#[100, 111, 99]⟩, .string ⟨#[98]⟩, .string ⟨#[118, 105, 101, 119, 101, 114]⟩, .string ⟨#[117, 115, 101, 114]⟩, .string ⟨#[120]⟩, .string ⟨#[]⟩] 47 (0, 0))) (some ⟨w.heap.size, 0, none⟩) sortL := fun _ => by
  have n := new_at w (.cells #[.string ⟨#[100, 111, 99]⟩, .string ⟨#[97]⟩, .string ⟨#[118, 105, 101, 119, 101, 114]⟩, .string ⟨#[103, 114, 111, 117, 112]⟩, .string ⟨#[103]⟩, .string ⟨#[109, 101, 109, 98, 101, 114]⟩, .string ⟨#[100, 111, 99]⟩, .string ⟨#[97]⟩, .string ⟨#[118, 105, 101, 119, 101, 114]⟩, .string ⟨#[117, 115, 101, 114]⟩, .string ⟨#[120]⟩, .string ⟨#[]⟩, .string ⟨#[100, 111, 99]⟩, .string ⟨#[98]⟩, .string ⟨#[118, 105, 101, 119, 101, 114]⟩, .string ⟨#[117, 115, 101, 114]⟩, .string ⟨#[120]⟩, .string ⟨#[]⟩] 47 (0, 0))
  have cc := fun j => box_cell n j
  refine ⟨w.heap.size, 0, rfl, by simp, fun i hi c v hv => ?_⟩
  have hc := enc_lt hv
  rw [cc, ← hv, Nat.zero_add]
  have hi3 : i < 3 := hi
  match i, hi3, c, hc with
  | 0, _, 0, _ => rfl
  | 0, _, 1, _ => rfl
  | 0, _, 2, _ => rfl
  | 0, _, 3, _ => rfl
  | 0, _, 4, _ => rfl
  | 0, _, 5, _ => rfl
  | 1, _, 0, _ => rfl
  | 1, _, 1, _ => rfl
  | 1, _, 2, _ => rfl
  | 1, _, 3, _ => rfl
  | 1, _, 4, _ => rfl
  | 1, _, 5, _ => rfl
  | 2, _, 0, _ => rfl
  | 2, _, 1, _ => rfl
  | 2, _, 2, _ => rfl
  | 2, _, 3, _ => rfl
  | 2, _, 4, _ => rfl
  | 2, _, 5, _ => rfl
set_option maxRecDepth 20000 in
set_option maxHeartbeats 4000000 in
theorem lives_any (w : World) : Calls Try.prog 16 #[] w fun e w' => e = .returned (.bool true) ∧ Below w.heap.size w w' := by
  go_enter Try.func16, Try.ntmps16
  go_wp2_with fail
  refine (small_any _).mono ?_
  rintro _ w1 ⟨v, rfl, hown, hb1⟩
  rcases hown.form with ⟨-, hl⟩ | ⟨g, cap, rfl, hcap, hR⟩
  · cases hl
  have HR := hid hR
  have HC := hid (sm_cells hR)
  have HB1 := hid hb1
  clear hown hR hb1 hcap
  simp only [show smallL.length = 3 from rfl]
  go_wp2_with fail
  refine (of_small_l g cap _ HR.out).mono ?_
  rintro _ w2 ⟨ov, T, rfl, hL, hb2⟩
  obtain rfl := hL.full (by decide)
  simp only [fv]
  have HL2 := hid hL
  have HC2 := hid (keep18 hb2 HC.out)
  have HB2 := hid (g_trans HB1.out hb2)
  clear hL hb2 HC HB1 HR
  go_wp2_with fail
  refine (fparse_x _ _ _ _ _ _ _ _ _ _ (by decide) fX_par).mono ?_
  rintro _ w3 ⟨rfl, hb3⟩
  have hx3 := keep2 hb3 (box2p w2 (.func (.func 31) #[] #[]) (.pointer T.ad) 35)
  have hA3 := g_trans (g_alloc (g_refl (a := w2)) (.cells #[.func (.func 31) #[] #[], .pointer T.ad] 35 (0, 0))) hb3
  have HC3 := hid (keep18 hA3 HC2.out)
  have HL3 := hid (HL2.out.below hA3)
  have HB3 := hid (g_trans HB2.out hA3)
  generalize w2.heap.size = b2 at *
  have HX3 := hid hx3
  clear hx3 hb3 hA3 HC2 HL2 HB2
  go_wp2_with fail
  have hA4 := g_alloc (g_refl (a := w3)) (.cells #[.string ⟨#[100, 111, 99]⟩, .string ⟨#[]⟩, .string ⟨#[]⟩, .string ⟨#[]⟩, .string ⟨#[]⟩, .string ⟨#[]⟩, .bool false] 64 (0, 0))
  have HC4 := hid (keep18 hA4 HC3.out)
  have HX4 := hid (keep2 hA4 HX3.out)
  have HL4 := hid (HL3.out.below hA4)
  have HB4 := hid (g_trans HB3.out hA4)
  have h7 := new_at w3 (.cells #[.string ⟨#[100, 111, 99]⟩, .string ⟨#[]⟩, .string ⟨#[]⟩, .string ⟨#[]⟩, .string ⟨#[]⟩, .string ⟨#[]⟩, .bool false] 64 (0, 0))
  have HF4 := hid h7
  generalize hW4 : w3.alloc (.cells #[.string ⟨#[100, 111, 99]⟩, .string ⟨#[]⟩, .string ⟨#[]⟩, .string ⟨#[]⟩, .string ⟨#[]⟩, .string ⟨#[]⟩, .bool false] 64 (0, 0)) = W4 at *
  generalize w3.heap.size = b4 at *
  clear hW4 hA4 h7 HC3 HX3 HL3 HB3
  obtain ⟨-, -, -, -, -, -, -, -, -, -, -, -, c12, c13, c14, c15, c16, c17⟩ := HC4.out
  have hS : W4.drew.cell? ⟨b2, 0, none⟩ = some (.func (.func 31) #[] #[]) ∧ W4.drew.cell? ⟨b2, 1, none⟩ = some (.pointer T.ad) ∧ W4.drew.cell? ⟨g, 12, none⟩ = some (.string ⟨#[100, 111, 99]⟩) ∧ W4.drew.cell? ⟨g, 13, none⟩ = some (.string ⟨#[98]⟩) ∧ W4.drew.cell? ⟨g, 14, none⟩ = some (.string ⟨#[118, 105, 101, 119, 101, 114]⟩) ∧ W4.drew.cell? ⟨g, 15, none⟩ = some (.string ⟨#[117, 115, 101, 114]⟩) ∧ W4.drew.cell? ⟨g, 16, none⟩ = some (.string ⟨#[120]⟩) ∧ W4.drew.cell? ⟨g, 17, none⟩ = some (.string ⟨#[]⟩) := ⟨HX4.out.1, HX4.out.2, c12, c13, c14, c15, c16, c17⟩
  have HS4 := hid hS
  have HLD : Hid (MapL W4.drew fv T sortL) := hid (HL4.out.below (g_drew g_refl))
  clear c12 c13 c14 c15 c16 c17
  go_cut [6, 7] (fun s6 s7 wx => ∃ (b6 : Nat) (T2 : Tr), s6 = .pointer (some ⟨b6, 0, none⟩) ∧ s7 = .int .i64 0 ∧ (wx.cell? ⟨b6, 0, none⟩ = some (.func (.func 31) #[] #[]) ∧ wx.cell? ⟨b6, 1, none⟩ = some (.pointer T2.ad)) ∧ MapL wx fv T2 [t1, t0] ∧ Below W4.heap.size W4 wx)
  case first =>
    go_region_held3 (fun w' => w'.cell? ⟨b2, 0, none⟩ = some (.func (.func 31) #[] #[]) ∧ w'.cell? ⟨b2, 1, none⟩ = some (.pointer T.ad) ∧ w'.cell? ⟨g, 12, none⟩ = some (.string ⟨#[100, 111, 99]⟩) ∧ w'.cell? ⟨g, 13, none⟩ = some (.string ⟨#[98]⟩) ∧ w'.cell? ⟨g, 14, none⟩ = some (.string ⟨#[118, 105, 101, 119, 101, 114]⟩) ∧ w'.cell? ⟨g, 15, none⟩ = some (.string ⟨#[117, 115, 101, 114]⟩) ∧ w'.cell? ⟨g, 16, none⟩ = some (.string ⟨#[120]⟩) ∧ w'.cell? ⟨g, 17, none⟩ = some (.string ⟨#[]⟩)) (first | with_reducible assumption | exact keep8 (g_alloc g_refl _) (by with_reducible assumption) | exact keep8 (g_set (g_set hB5 (Nat.le_refl _) _) (Nat.le_refl _) _) HS4.out | exact keep8 (g_alloc hB5 _) HS4.out | exact keep8 hB5 HS4.out)
      (first | (go_at_call 11; (with_reducible refine Calls.mono (with_small HLD.out) ?_); rintro _ w5 ⟨T2, rfl, hL5, hb5⟩; have hB5 := hb5) | (go_at_call 11; (with_reducible refine Calls.mono (with_small (HLD.out.below (g_alloc g_refl _))) ?_); rintro _ w5 ⟨T2, rfl, hL5, hb5⟩; have hB5 := g_trans (g_alloc (g_refl (a := W4.drew)) _) hb5; obtain ⟨r0, r1, r2, f0, f1⟩ := res2 (show (W4.drew.alloc (.cells #[.nilFunc, .pointer none] 35 (0, 0))).heap[W4.heap.size]? = some (.cells #[.nilFunc, .pointer none] 35 (0, 0)) from new_at W4.drew _) hb5))
    all_goals
      go_wp2_with fail
      go_meet
      first
      | exact ⟨w5.heap.size, T2, rfl, rfl, box2p w5 _ _ _, hL5.below (g_alloc g_refl _), g_alloc (g_trans (g_drew g_refl) hB5) _⟩
      | exact ⟨W4.heap.size, T2, rfl, rfl, ⟨(box_cell (set2_heap r0 _ _) 0).trans rfl, (box_cell (set2_heap r0 _ _) 1).trans rfl⟩, hL5.bod (set_two r0 _ _) (by decide), g_set (g_set (g_trans (g_drew g_refl) hB5) (Nat.le_refl _) _) (Nat.le_refl _) _⟩
  case rest =>
    obtain ⟨b6, T2, rfl, rfl, hx6, hL6, hB6⟩ := hcut
    have HX6 := hid hx6
    have HL6 := hid hL6
    have HC6 := hid (keep18 hB6 HC4.out)
    have HXS6 := hid (keep2 hB6 HX4.out)
    have HLS6 := hid (HL4.out.below hB6)
    have HF6 := hid ((hB6.block _ (Array.getElem?_eq_some_iff.1 HF4.out).1).trans HF4.out)
    have HB6 := hid (g_trans HB4.out hB6)
    clear hx6 hL6 hB6 HC4 HX4 HL4 HF4 HB4 HS4 HLD hS
    obtain ⟨k0, k1⟩ := HXS6.out
    go_wp2_with fail
    refine (with_zero T _).mono ?_
    rintro _ w7 ⟨rfl, hb7⟩
    clear k0 k1
    go_wp2_with fail
    refine (of_nil _).mono ?_
    rintro _ w8 ⟨rfl, hb8⟩
    have hA := g_alloc (g_trans (g_alloc hb7 (.cells #[.nilFunc, .pointer none] 35 (0, 0))) hb8) (.cells #[.nilFunc, .pointer none] 35 (0, 0))
    have hx10 := box2p w8 .nilFunc (.pointer none) 35
    have HX9 := hid (keep2 hA HX6.out)
    have HL9 := hid (HL6.out.below hA)
    have HC9 := hid (keep18 hA HC6.out)
    have HXS9 := hid (keep2 hA HXS6.out)
    have HLS9 := hid (HLS6.out.below hA)
    have hf9 := (hA.block _ (Array.getElem?_eq_some_iff.1 HF6.out).1).trans HF6.out
    have HB9 := hid (g_trans HB6.out hA)
    have HX10 := hid hx10
    have cf := fun j => box_cell hf9 j
    go_upto_region 7 with fail
    generalize hW9 : w8.alloc (.cells #[.nilFunc, .pointer none] 35 (0, 0)) = W9 at *
    generalize w8.heap.size = b10 at *
    have hS : W9.drew.cell? ⟨b2, 0, none⟩ = some (.func (.func 31) #[] #[]) ∧ W9.drew.cell? ⟨b2, 1, none⟩ = some (.pointer T.ad) ∧ W9.drew.cell? ⟨g, 0, none⟩ = some (.string ⟨#[100, 111, 99]⟩) ∧ W9.drew.cell? ⟨g, 1, none⟩ = some (.string ⟨#[97]⟩) ∧ W9.drew.cell? ⟨g, 2, none⟩ = some (.string ⟨#[118, 105, 101, 119, 101, 114]⟩) ∧ W9.drew.cell? ⟨g, 3, none⟩ = some (.string ⟨#[117, 115, 101, 114]⟩) ∧ W9.drew.cell? ⟨g, 4, none⟩ = some (.string ⟨#[120]⟩) ∧ W9.drew.cell? ⟨g, 5, none⟩ = some (.string ⟨#[]⟩) ∧ W9.drew.cell? ⟨g, 6, none⟩ = some (.string ⟨#[100, 111, 99]⟩) ∧ W9.drew.cell? ⟨g, 7, none⟩ = some (.string ⟨#[97]⟩) ∧ W9.drew.cell? ⟨g, 8, none⟩ = some (.string ⟨#[118, 105, 101, 119, 101, 114]⟩) ∧ W9.drew.cell? ⟨g, 9, none⟩ = some (.string ⟨#[103, 114, 111, 117, 112]⟩) ∧ W9.drew.cell? ⟨g, 10, none⟩ = some (.string ⟨#[103]⟩) ∧ W9.drew.cell? ⟨g, 11, none⟩ = some (.string ⟨#[109, 101, 109, 98, 101, 114]⟩) ∧ W9.drew.cell? ⟨g, 12, none⟩ = some (.string ⟨#[100, 111, 99]⟩) ∧ W9.drew.cell? ⟨g, 13, none⟩ = some (.string ⟨#[98]⟩) ∧ W9.drew.cell? ⟨g, 14, none⟩ = some (.string ⟨#[118, 105, 101, 119, 101, 114]⟩) ∧ W9.drew.cell? ⟨g, 15, none⟩ = some (.string ⟨#[117, 115, 101, 114]⟩) ∧ W9.drew.cell? ⟨g, 16, none⟩ = some (.string ⟨#[120]⟩) ∧ W9.drew.cell? ⟨g, 17, none⟩ = some (.string ⟨#[]⟩) ∧ W9.drew.cell? ⟨b4, 0, none⟩ = some (.string ⟨#[100, 111, 99]⟩) ∧ W9.drew.cell? ⟨b4, 1, none⟩ = some (.string ⟨#[]⟩) ∧ W9.drew.cell? ⟨b4, 2, none⟩ = some (.string ⟨#[]⟩) ∧ W9.drew.cell? ⟨b4, 3, none⟩ = some (.string ⟨#[]⟩) ∧ W9.drew.cell? ⟨b4, 4, none⟩ = some (.string ⟨#[]⟩) ∧ W9.drew.cell? ⟨b4, 5, none⟩ = some (.string ⟨#[]⟩) ∧ W9.drew.cell? ⟨b4, 6, none⟩ = some (.bool false) := by
      obtain ⟨x0, x1⟩ := HXS9.out
      obtain ⟨c0, c1, c2, c3, c4, c5, c6, c7, c8, c9, c10, c11, c12, c13, c14, c15, c16, c17⟩ := HC9.out
      exact ⟨x0, x1, c0, c1, c2, c3, c4, c5, c6, c7, c8, c9, c10, c11, c12, c13, c14, c15, c16, c17, (cf 0).trans rfl, (cf 1).trans rfl, (cf 2).trans rfl, (cf 3).trans rfl, (cf 4).trans rfl, (cf 5).trans rfl, (cf 6).trans rfl⟩
    have HLD : Hid (MapL W9.drew fv T sortL) := hid (HLS9.out.below (g_drew g_refl))
    clear hW9 cf hf9 hA hb7 hb8 hx10 HX6 HL6 HC6 HXS6 HLS6 HF6 HB6
    go_cut [98] (fun s wx => s = .bool false ∧ Below W9.heap.size W9 wx)
    case first =>
      go_region_held3 (fun w' => w'.cell? ⟨b2, 0, none⟩ = some (.func (.func 31) #[] #[]) ∧ w'.cell? ⟨b2, 1, none⟩ = some (.pointer T.ad) ∧ w'.cell? ⟨g, 0, none⟩ = some (.string ⟨#[100, 111, 99]⟩) ∧ w'.cell? ⟨g, 1, none⟩ = some (.string ⟨#[97]⟩) ∧ w'.cell? ⟨g, 2, none⟩ = some (.string ⟨#[118, 105, 101, 119, 101, 114]⟩) ∧ w'.cell? ⟨g, 3, none⟩ = some (.string ⟨#[117, 115, 101, 114]⟩) ∧ w'.cell? ⟨g, 4, none⟩ = some (.string ⟨#[120]⟩) ∧ w'.cell? ⟨g, 5, none⟩ = some (.string ⟨#[]⟩) ∧ w'.cell? ⟨g, 6, none⟩ = some (.string ⟨#[100, 111, 99]⟩) ∧ w'.cell? ⟨g, 7, none⟩ = some (.string ⟨#[97]⟩) ∧ w'.cell? ⟨g, 8, none⟩ = some (.string ⟨#[118, 105, 101, 119, 101, 114]⟩) ∧ w'.cell? ⟨g, 9, none⟩ = some (.string ⟨#[103, 114, 111, 117, 112]⟩) ∧ w'.cell? ⟨g, 10, none⟩ = some (.string ⟨#[103]⟩) ∧ w'.cell? ⟨g, 11, none⟩ = some (.string ⟨#[109, 101, 109, 98, 101, 114]⟩) ∧ w'.cell? ⟨g, 12, none⟩ = some (.string ⟨#[100, 111, 99]⟩) ∧ w'.cell? ⟨g, 13, none⟩ = some (.string ⟨#[98]⟩) ∧ w'.cell? ⟨g, 14, none⟩ = some (.string ⟨#[118, 105, 101, 119, 101, 114]⟩) ∧ w'.cell? ⟨g, 15, none⟩ = some (.string ⟨#[117, 115, 101, 114]⟩) ∧ w'.cell? ⟨g, 16, none⟩ = some (.string ⟨#[120]⟩) ∧ w'.cell? ⟨g, 17, none⟩ = some (.string ⟨#[]⟩) ∧ w'.cell? ⟨b4, 0, none⟩ = some (.string ⟨#[100, 111, 99]⟩) ∧ w'.cell? ⟨b4, 1, none⟩ = some (.string ⟨#[]⟩) ∧ w'.cell? ⟨b4, 2, none⟩ = some (.string ⟨#[]⟩) ∧ w'.cell? ⟨b4, 3, none⟩ = some (.string ⟨#[]⟩) ∧ w'.cell? ⟨b4, 4, none⟩ = some (.string ⟨#[]⟩) ∧ w'.cell? ⟨b4, 5, none⟩ = some (.string ⟨#[]⟩) ∧ w'.cell? ⟨b4, 6, none⟩ = some (.bool false)) (first | with_reducible assumption | exact keep27 (by with_reducible assumption) (by with_reducible assumption) | exact keep27 (g_alloc g_refl _) (by with_reducible assumption))
        (first
        | (go_at_call 23; (with_reducible refine Calls.mono (lv_len HLD.out) ?_); rintro _ x1 ⟨rfl, hc1⟩; have hM1 := HLD.out.below hc1)
        | (go_at_call 18; (with_reducible refine Calls.mono (lv_list hM1) ?_); rintro _ x2 ⟨A2, rfl, hR2, hc2⟩; have hM2 := hM1.below hc2; have hB2 := g_trans hc1 hc2)
        | (go_at_call 18; (with_reducible refine Calls.mono (lv_list (hM1.below (g_alloc g_refl _))) ?_); rintro _ x2 ⟨A2, rfl, hR2, hc2⟩; have hL2 := (row_sort x1).below hc2; have hM2 := (hM1.below (g_alloc g_refl (.cells #[.string ⟨#[100, 111, 99]⟩, .string ⟨#[97]⟩, .string ⟨#[118, 105, 101, 119, 101, 114]⟩, .string ⟨#[103, 114, 111, 117, 112]⟩, .string ⟨#[103]⟩, .string ⟨#[109, 101, 109, 98, 101, 114]⟩, .string ⟨#[100, 111, 99]⟩, .string ⟨#[97]⟩, .string ⟨#[118, 105, 101, 119, 101, 114]⟩, .string ⟨#[117, 115, 101, 114]⟩, .string ⟨#[120]⟩, .string ⟨#[]⟩, .string ⟨#[100, 111, 99]⟩, .string ⟨#[98]⟩, .string ⟨#[118, 105, 101, 119, 101, 114]⟩, .string ⟨#[117, 115, 101, 114]⟩, .string ⟨#[120]⟩, .string ⟨#[]⟩] 47 (0, 0)))).below hc2; have hB2 := g_trans (g_alloc hc1 (.cells #[.string ⟨#[100, 111, 99]⟩, .string ⟨#[97]⟩, .string ⟨#[118, 105, 101, 119, 101, 114]⟩, .string ⟨#[103, 114, 111, 117, 112]⟩, .string ⟨#[103]⟩, .string ⟨#[109, 101, 109, 98, 101, 114]⟩, .string ⟨#[100, 111, 99]⟩, .string ⟨#[97]⟩, .string ⟨#[118, 105, 101, 119, 101, 114]⟩, .string ⟨#[117, 115, 101, 114]⟩, .string ⟨#[120]⟩, .string ⟨#[]⟩, .string ⟨#[100, 111, 99]⟩, .string ⟨#[98]⟩, .string ⟨#[118, 105, 101, 119, 101, 114]⟩, .string ⟨#[117, 115, 101, 114]⟩, .string ⟨#[120]⟩, .string ⟨#[]⟩] 47 (0, 0))) hc2)
        | (go_at_call 15; (with_reducible refine Calls.mono (lv_same _ _ _ _ _ (hR2.below (g_alloc g_refl _)) (row_sort _)) ?_); rintro _ x3 ⟨rfl, hc3⟩; have hM3 := (hM2.below (g_alloc g_refl (.cells #[.string ⟨#[100, 111, 99]⟩, .string ⟨#[97]⟩, .string ⟨#[118, 105, 101, 119, 101, 114]⟩, .string ⟨#[103, 114, 111, 117, 112]⟩, .string ⟨#[103]⟩, .string ⟨#[109, 101, 109, 98, 101, 114]⟩, .string ⟨#[100, 111, 99]⟩, .string ⟨#[97]⟩, .string ⟨#[118, 105, 101, 119, 101, 114]⟩, .string ⟨#[117, 115, 101, 114]⟩, .string ⟨#[120]⟩, .string ⟨#[]⟩, .string ⟨#[100, 111, 99]⟩, .string ⟨#[98]⟩, .string ⟨#[118, 105, 101, 119, 101, 114]⟩, .string ⟨#[117, 115, 101, 114]⟩, .string ⟨#[120]⟩, .string ⟨#[]⟩] 47 (0, 0)))).below hc3; have hB3 := g_trans (g_alloc hB2 (.cells #[.string ⟨#[100, 111, 99]⟩, .string ⟨#[97]⟩, .string ⟨#[118, 105, 101, 119, 101, 114]⟩, .string ⟨#[103, 114, 111, 117, 112]⟩, .string ⟨#[103]⟩, .string ⟨#[109, 101, 109, 98, 101, 114]⟩, .string ⟨#[100, 111, 99]⟩, .string ⟨#[97]⟩, .string ⟨#[118, 105, 101, 119, 101, 114]⟩, .string ⟨#[117, 115, 101, 114]⟩, .string ⟨#[120]⟩, .string ⟨#[]⟩, .string ⟨#[100, 111, 99]⟩, .string ⟨#[98]⟩, .string ⟨#[118, 105, 101, 119, 101, 114]⟩, .string ⟨#[117, 115, 101, 114]⟩, .string ⟨#[120]⟩, .string ⟨#[]⟩] 47 (0, 0))) hc3)
        | (go_at_call 15; (with_reducible refine Calls.mono (lv_same _ _ _ _ _ hR2 hL2) ?_); rintro _ x3 ⟨rfl, hc3⟩; have hM3 := hM2.below hc3; have hB3 := g_trans hB2 hc3)
        | (go_at_call 19; (with_reducible refine Calls.mono (lv_goal hM3) ?_); rintro _ x4 ⟨A4, rfl, hc4⟩; have hM4 := hM3.below hc4)
        | (go_at_call 20; (with_reducible refine Calls.mono (lv_sub hM4) ?_); rintro _ x5 ⟨A5, rfl, hc5⟩; have hM5 := hM4.below hc5)
        | (go_at_call 21; (with_reducible refine Calls.mono (lv_match hM5) ?_); rintro _ x6 ⟨A6, rfl, hc6⟩))
      all_goals
        go_wp2_with fail
        go_meet
        exact ⟨rfl, g_trans (g_trans (g_trans (g_trans (g_drew g_refl) hB3) hc4) hc5) hc6⟩
    case rest =>
      obtain ⟨rfl, hB⟩ := hcut
      have HXA := hid (keep2 hB HX9.out)
      have HLA := hid (HL9.out.below hB)
      have HCA := hid (keep18 hB HC9.out)
      have HXB := hid (keep2 hB HX10.out)
      have HBA := hid (g_trans HB9.out hB)
      obtain ⟨k0, k1⟩ := HXA.out
      clear hB HX9 HL9 HC9 HX10 HB9 hS HLD HXS9 HLS9
      go_wp2_with fail
      refine (lv_goals HLA.out).mono ?_
      rintro _ w10 ⟨A, rfl, hRG, hb10⟩
      obtain ⟨bb, oo, rfl, hLG⟩ := hRG (by decide)
      have g0 : w10.cell? ⟨bb, oo, none⟩ = some (.string ⟨#[100, 111, 99]⟩) := hLG.2 0 (by decide) 0 _ rfl
      have g1 : w10.cell? ⟨bb, oo + 1, none⟩ = some (.string ⟨#[97]⟩) := hLG.2 0 (by decide) 1 _ rfl
      have g2 : w10.cell? ⟨bb, oo + 2, none⟩ = some (.string ⟨#[118, 105, 101, 119, 101, 114]⟩) := hLG.2 0 (by decide) 2 _ rfl
      obtain ⟨c0, c1, c2, -⟩ := keep18 hb10 HCA.out
      obtain ⟨k2, k3⟩ := keep2 hb10 HXA.out
      obtain ⟨k4, k5⟩ := keep2 hb10 HXB.out
      have HLB := hid (HLA.out.below hb10)
      have HBB := hid (g_trans HBA.out hb10)
      have heq := run_eqlG (glT t0) (glT t0) true (by simp)
      simp only [glT, t0] at heq
      clear k0 k1 hLG hb10 HCA HXA HXB HLA HBA
      go_upto_region 10 with fail
      have hS : w10.drew.cell? ⟨b6, 0, none⟩ = some (.func (.func 31) #[] #[]) ∧ w10.drew.cell? ⟨b6, 1, none⟩ = some (.pointer T2.ad) ∧ w10.drew.cell? ⟨bb, oo, none⟩ = some (.string ⟨#[100, 111, 99]⟩) ∧ w10.drew.cell? ⟨bb, oo + 1, none⟩ = some (.string ⟨#[97]⟩) ∧ w10.drew.cell? ⟨bb, oo + 2, none⟩ = some (.string ⟨#[118, 105, 101, 119, 101, 114]⟩) ∧ w10.drew.cell? ⟨g, 0, none⟩ = some (.string ⟨#[100, 111, 99]⟩) ∧ w10.drew.cell? ⟨g, 1, none⟩ = some (.string ⟨#[97]⟩) ∧ w10.drew.cell? ⟨g, 2, none⟩ = some (.string ⟨#[118, 105, 101, 119, 101, 114]⟩) ∧ w10.drew.cell? ⟨b10, 0, none⟩ = some (.nilFunc) ∧ w10.drew.cell? ⟨b10, 1, none⟩ = some (.pointer none) := ⟨k2, k3, g0, g1, g2, c0, c1, c2, k4, k5⟩
      have HLD : Hid (MapL w10.drew fv T2 [t1, t0]) := hid (HLB.out.below (g_drew g_refl))
      clear k2 k3 g0 g1 g2 c0 c1 c2 k4 k5
      go_region_held3 (fun w' => w'.cell? ⟨b6, 0, none⟩ = some (.func (.func 31) #[] #[]) ∧ w'.cell? ⟨b6, 1, none⟩ = some (.pointer T2.ad) ∧ w'.cell? ⟨bb, oo, none⟩ = some (.string ⟨#[100, 111, 99]⟩) ∧ w'.cell? ⟨bb, oo + 1, none⟩ = some (.string ⟨#[97]⟩) ∧ w'.cell? ⟨bb, oo + 2, none⟩ = some (.string ⟨#[118, 105, 101, 119, 101, 114]⟩) ∧ w'.cell? ⟨g, 0, none⟩ = some (.string ⟨#[100, 111, 99]⟩) ∧ w'.cell? ⟨g, 1, none⟩ = some (.string ⟨#[97]⟩) ∧ w'.cell? ⟨g, 2, none⟩ = some (.string ⟨#[118, 105, 101, 119, 101, 114]⟩) ∧ w'.cell? ⟨b10, 0, none⟩ = some (.nilFunc) ∧ w'.cell? ⟨b10, 1, none⟩ = some (.pointer none)) (first | with_reducible assumption | exact keep10 (by with_reducible assumption) (by with_reducible assumption))
        (first
        | (go_at_call 23; (with_reducible refine Calls.mono (lv_len2 HLD.out) ?_); rintro _ x1 ⟨rfl, hc1⟩)
        | (go_at_call 23; (with_reducible refine Calls.mono (lv_len0 _) ?_); rintro _ x2 ⟨rfl, hc2⟩))
      all_goals go_wp2
      all_goals go_ret
      all_goals exact ⟨rfl, g_trans (g_trans (g_drew HBB.out) hc1) hc2⟩
end Go.Proofs.Ytfgjeflhhfjgeaa.DT
namespace Go.Proofs.Ytfgjeflhhfjgeaa.DT
open Go.RowKit Go.Deep

theorem nb_spc (n : Nat) : nb (spc n) = true := by
  unfold spc
  split
  · decide +kernel
  · split <;> decide +kernel
theorem nb_idS (n : Nat) : nb (idS n) = true := by
  unfold idS
  repeat' split
  all_goals decide +kernel
theorem nb_relS (n : Nat) : nb (relS n) = true := by
  unfold relS
  repeat' split
  all_goals decide +kernel
theorem one_ok (p q : Nat) : okT (one p q) = true := by
  unfold one okT okSub
  split
  · simp [nb_spc, nb_idS, nb_relS]
  · simp only [nb_spc, nb_idS, nb_relS, emp]; rfl
theorem ofT_ok (x : List (Nat × Nat)) : ∀ t ∈ ofT x, okT t = true := fun t ht => by
  unfold ofT at ht
  obtain ⟨p, -, rfl⟩ := List.mem_map.1 ht
  exact one_ok _ _
/-- what With makes of a list that has room -/
def nx (l : List Tup) (k : Tup) (d : Bool) : List Tup := if d = true then Tr.del k l else put1 cmpT l k
theorem wth_nx {l : List Tup} {k : Tup} (d : Bool) (ho : okT k = true) (hl : l.length < 4096) : wth l k d = (nx l k d, 0) := by
  unfold wth nx put1
  rw [if_neg (by rw [ho]; decide)]
  cases d
  · simp only [Bool.false_eq_true, if_false]
    by_cases hm : k ∈ l
    · rw [if_pos hm, if_pos hm]
    · rw [if_neg hm, if_neg hm, if_neg (by omega)]
  · rw [if_pos rfl, if_pos rfl]
theorem nx_len (l : List Tup) (k : Tup) (d : Bool) : (nx l k d).length ≤ l.length + 1 := by
  unfold nx put1
  split
  · have := Tr.del_len (k := k) l; omega
  · split
    · omega
    · rw [length_ins]; omega
theorem nx_asc {l : List Tup} (h : Asc cmpT l) (k : Tup) (d : Bool) : Asc cmpT (nx l k d) := by
  unfold nx
  split
  · exact Tr.del_asc h
  · exact put1_asc tot k l h
theorem nx_ok {l : List Tup} (h : ∀ t ∈ l, okT t = true) {k : Tup} (hk : okT k = true) (d : Bool) : ∀ t ∈ nx l k d, okT t = true := by
  unfold nx
  split
  · intro t ht; exact h t (Tr.mem_del.1 ht).1
  · intro t ht
    rcases (put1_mem k t l).1 ht with e | ht
    · rw [e]; exact hk
    · exact h t ht
theorem nx_has (l : List Tup) (k : Tup) (d : Bool) : decide (k ∈ nx l k d) = !d := by
  unfold nx
  cases d
  · rw [if_neg Bool.noConfusion]
    exact decide_eq_true ((put1_mem k k l).2 (.inl rfl))
  · rw [if_pos rfl]
    exact decide_eq_false (fun h => (Tr.mem_del.1 h).2 rfl)
theorem nx_same {l : List Tup} {k : Tup} {d : Bool} (h : decide (k ∈ l) = !d) : nx l k d = l := by
  unfold nx put1
  cases d
  · rw [if_neg Bool.noConfusion, if_pos (of_decide_eq_true h)]
  · rw [if_pos rfl, Tr.del_new (of_decide_eq_false h)]
theorem nx_back {l : List Tup} (hl : Asc cmpT l) {k : Tup} {d : Bool} (h : nx l k d ≠ l) : nx (nx l k d) k (!d) = l := by
  have hk : decide (k ∈ l) = d := by
    cases e : decide (k ∈ l) <;> cases d
    · rfl
    · exact absurd (nx_same (by rw [e]; rfl)) h
    · exact absurd (nx_same (by rw [e]; rfl)) h
    · rfl
  refine Asc.uniq tot (nx_asc (nx_asc hl k d) k _) hl fun t => ?_
  cases d
  · have hk := of_decide_eq_false hk
    have e1 : nx (nx l k false) k (!false) = Tr.del k (put1 cmpT l k) := rfl
    rw [e1, Tr.mem_del, put1_mem]
    constructor
    · rintro ⟨h1 | h1, h2⟩
      · exact absurd h1 h2
      · exact h1
    · intro h1
      exact ⟨.inr h1, fun e => hk (e ▸ h1)⟩
  · have hk := of_decide_eq_true hk
    have e1 : nx (nx l k true) k (!true) = put1 cmpT (Tr.del k l) k := rfl
    rw [e1, put1_mem, Tr.mem_del]
    constructor
    · rintro (h1 | h1)
      · rw [h1]; exact hk
      · exact h1.1
    · intro h1
      by_cases e : t = k
      · exact .inl e
      · exact .inr ⟨h1, e⟩
theorem ofF_srt : ∀ (l acc : List Tup), acc.length + l.length ≤ 4096 → (∀ t ∈ l, okT t = true) → ofF acc l = (l.foldl (put1 cmpT) acc, 0)
  | [], acc, _, _ => rfl
  | k :: t, acc, hn, hv => by
    rw [List.length_cons] at hn
    have e := wth_nx (l := acc) (k := k) false (hv k List.mem_cons_self) (by omega)
    rw [ofF_go (by rw [e]), e, List.foldl_cons]
    have h1 := nx_len acc k false
    exact ofF_srt t _ (by show (nx acc k false).length + t.length ≤ 4096; omega) (fun x hx => hv x (List.mem_cons_of_mem _ hx))
theorem ofF_ofT (x : List (Nat × Nat)) : ofF [] (ofT x) = (srt cmpT (ofT x), 0) := ofF_srt _ _ (by have := ofT_len x; simp; omega) (ofT_ok x)
theorem srt_ok {l : List Tup} (h : ∀ t ∈ l, okT t = true) : ∀ t ∈ srt cmpT l, okT t = true := fun t ht => h t ((mem_srt tot l t).1 ht)
theorem sameI_self (l : List Tup) : sameI l l = 1 := by unfold sameI; rw [if_pos rfl]

/-- a list that a call has made -/
def GivesL1 (w : World) (l : List Tup) (e : Ending) (w' : World) : Prop := ∃ A c, e = .returned (.slice A l.length c) ∧ Row w' A l ∧ Below w.heap.size w w'
theorem of_t (A : Option Addr) (x : List (Nat × Nat)) (c : Nat) (w : World) (hR : RowN w A x) (hn : x.length ≤ maxLen) :
    Calls Try.prog 6 #[.agg #[.slice A x.length c]] w (GivesL1 w (ofT x)) :=
  (of_any A x c w hR hn).mono fun _ _ ⟨v, he, hO, hg⟩ => by
    obtain ⟨A', c', e, hR', -, -⟩ := hO.row
    exact ⟨A', c', by rw [he, e], hR', hg.toBelow⟩
theorem rsorted_t (A : Option Addr) (l : List Tup) (c : Nat) (w : World) (hR : Row w A l) (hF : ∀ x ∈ l, Fits x) (hn : l.length ≤ 9000) :
    Calls Try.prog 8 #[.slice A l.length c] w (GivesL1 w (srt cmpT l)) :=
  (rsorted A l c w hR hF hn).mono fun _ _ ⟨v, he, hO, hg⟩ => by
    obtain ⟨A', c', e, hR', -, -⟩ := hO.row
    exact ⟨A', c', by rw [he, e], hR', hg.toBelow⟩
/-- the order of a map can be stored -/
theorem store_ov {ov : Value} (h : ov = fv ∨ ov = .nilFunc) (W : World) (p : Addr) (h1 : (W.cell? p).isSome = true) (h2 : W.frozen? p = false) : (store p ov).run Try.prog W = .ok () (W.setCell p ov) := by
  obtain ⟨v, hv⟩ := some_of h1
  rcases h with rfl | rfl
  · simp only [fv]; go_simp
  · go_simp
theorem MapL.ovs {w : World} {ov : Value} {T : Tr} {l : List Tup} (h : MapL w ov T l) : ov = fv ∨ ov = .nilFunc := h.ov.elim .inl (fun h => .inr h.1)
end Go.Proofs.Ytfgjeflhhfjgeaa.DT
namespace Go.Proofs.Ytfgjeflhhfjgeaa
open Go.ChangeShapes Go.WideShapes Go.ChangeAt Go.RowKit Go.Deep
variable {H : Type} {enc : TypeId × Value → H} {P : Program} {w : World} {base : Nat} {spare : Nat → Bool} {held : Bool}

theorem u8_nat {n : Int} (h : (Lit.int .u8 n).wf = true) : n = (n.toNat : Int) ∧ n.toNat < 256 := by
  simp [Lit.wf, IntKind.min, IntKind.max, IntKind.signed, IntKind.bits] at h
  omega
/-- two bytes of an array -/
theorem trod_two {e b : TypeId} {fuel : Nat} {u v : Value} {x : DataW H × List MemPlace} (he : P.underlying e = some (.array 2 b)) (cB : P.cellsOf b = 1) (hb : P.underlying b = some (.int .u8)) (h : DataW.trod enc P w base spare held fuel e [u, v] = some x) :
    ∃ p q : Nat, u = .int .u8 p ∧ v = .int .u8 q ∧ p < 256 ∧ q < 256 := by
  obtain ⟨xs, m', _, _, _, hxl, hxs⟩ := DataW.trod_array he h
  have h0 := hxs 0 (by decide)
  have h1 := hxs 1 (by decide)
  rw [cB] at h0 h1
  match xs, hxl with
  | [y0, y1], _ =>
    obtain ⟨n0, e0, -, w0⟩ := DataW.trod_int (cs := [u]) hb (by simpa using h0)
    obtain ⟨n1, e1, -, w1⟩ := DataW.trod_int (cs := [v]) hb (by simpa using h1)
    simp only [List.cons.injEq, and_true] at e0 e1
    obtain ⟨k0, l0⟩ := u8_nat w0
    obtain ⟨k1, l1⟩ := u8_nat w1
    exact ⟨n0.toNat, n1.toNat, by rw [e0, ← k0], by rw [e1, ← k1], l0, l1⟩
/-- a pair of bytes by value -/
theorem open_two {e b : TypeId} {r : Reach} {b0 : Nat} {v : Value} {d : DataW H} {p : List MemPlace} (he : P.underlying e = some (.array 2 b)) (cE : P.cellsOf e = 2) (cB : P.cellsOf b = 1) (hb : P.underlying b = some (.int .u8))
    (hv : Value.okWide P w r b0 e v) (h : DataW.Trod enc P w base spare held e v d p) :
    ∃ x y : Nat, v = .agg #[.int .u8 x, .int .u8 y] ∧ x < 256 ∧ y < 256 := by
  obtain ⟨cs, rfl, hsz, _⟩ : ∃ cs, v = .agg cs ∧ cs.size = P.cellsOf e ∧ Row.okWide P w r b0 e cs := by
    simpa [Value.okWide, he] using hv
  rw [cE] at hsz
  obtain ⟨l⟩ := cs
  match l, hsz with
  | [c0, c1], _ =>
    obtain ⟨fuel, hf⟩ := h
    obtain ⟨x, y, rfl, rfl, hx, hy⟩ := trod_two he cB hb (u := c0) (v := c1) (by simpa [Value.cells] using hf)
    exact ⟨x, y, rfl, hx, hy⟩
/-- the number in a cell -/
def cellN (w : World) (a : Addr) : Nat :=
  match w.cell? a with
  | some (.int _ n) => n.toNat
  | _ => 0
theorem cellN_of {w : World} {a : Addr} {n : Nat} (h : w.cell? a = some (.int .u8 n)) : cellN w a = n := by unfold cellN; rw [h]; simp
theorem addr_none {w : World} {a : Addr} {u : Value} (h : w.cell? (a.add 0) = some u) : a = ⟨a.block, a.off, none⟩ := by
  obtain ⟨b, o, s⟩ := a
  rw [show (⟨b, o, s⟩ : Addr).add 0 = ⟨b, o, s⟩ from rfl] at h
  cases s with
  | none => rfl
  | some k =>
    exfalso
    unfold World.cell? at h
    split at h <;> simp at h
theorem add_plain (b o k : Nat) : (⟨b, o, none⟩ : Addr).add k = ⟨b, o + k, none⟩ := by
  unfold Addr.add
  by_cases h : k = 0
  · subst h; rfl
  · rw [if_neg h]
theorem open_pairs {t s e b : TypeId} {f0 : Field} {r : Reach} {b0 : Nat} {v : Value} {d : DataW H} {p : List MemPlace} (ht : P.underlying t = some (.struct #[f0])) (hft : f0.type = s) (ho : f0.offset = 0) (cT : P.cellsOf t = 1) (cS : P.cellsOf s = 1) (hs : P.underlying s = some (.slice e))
    (he : P.underlying e = some (.array 2 b)) (cE : P.cellsOf e = 2) (cB : P.cellsOf b = 1) (hb : P.underlying b = some (.int .u8))
    (hv : Value.okWide P w r b0 t v) (h : DataW.Trod enc P w base spare held t v d p) :
    ∃ A x c, v = .agg #[.slice A x.length c] ∧ x.length ≤ maxLen ∧ RowN w A x := by
  obtain ⟨cs, rfl, hsz⟩ := okWide_struct ht hv
  obtain ⟨l⟩ := cs
  match l, hsz.trans cT with
  | [c0], _ =>
    obtain ⟨fuel, hf⟩ := h
    obtain ⟨y0, n, _, _, h0⟩ := trod_struct1 ht hf
    rw [hft, ho, cS] at h0
    have h0' : DataW.trod enc P w base spare held n s [c0] = some y0 := by simpa [Value.cells] using h0
    rcases open_slice hs h0' with ⟨hc, -⟩ | ⟨a, len, cap, m, k, D, Pl, hc, hbase, hle, hcap, hm, -, hel⟩
    · simp only [List.cons.injEq, and_true] at hc
      subst hc
      exact ⟨none, [], 0, rfl, Nat.zero_le _, fun h => absurd rfl h⟩
    · simp only [List.cons.injEq, and_true] at hc
      subst hc
      have hml : len ≤ m := by rw [hm]; split <;> omega
      have key : ∀ i, i < len → ∃ p q : Nat, w.cell? (a.add (i * 2)) = some (.int .u8 p) ∧ w.cell? (a.add (i * 2 + 1)) = some (.int .u8 q) ∧ p < 256 ∧ q < 256 := fun i hi => by
        obtain ⟨cs', hcells, htr⟩ := hel i (by omega)
        rw [cE] at hcells
        obtain ⟨_, hlen, hcell⟩ := World.cells?_some hcells
        match cs', hlen with
        | [u, v], _ =>
          obtain ⟨p, q, rfl, rfl, hp, hq⟩ := trod_two he cB hb htr
          have k0 := hcell 0 (by decide)
          have k1 := hcell 1 (by decide)
          rw [Addr.add_add] at k0 k1
          exact ⟨p, q, by simpa using k0, by simpa using k1, hp, hq⟩
      refine ⟨some a, (List.range len).map fun i => (cellN w (a.add (i * 2)), cellN w (a.add (i * 2 + 1))), cap, by simp, by simp; omega, fun hne => ?_⟩
      have hlen : 0 < len := by
        rcases Nat.eq_zero_or_pos len with h | h
        · subst h; exact absurd rfl hne
        · exact h
      obtain ⟨p0, q0, hc0, -⟩ := key 0 hlen
      have ha := addr_none (by simpa using hc0)
      have hlt := World.block_lt_of_cell? _ _ hc0
      rw [ha] at hlt
      refine ⟨a.block, a.off, by rw [← ha], by simpa [Addr.add] using hlt, fun i hi => ?_⟩
      have hi' : i < len := by simpa using hi
      obtain ⟨p, q, e0, e1, hp, hq⟩ := key i hi'
      have f0 := cellN_of e0
      have f1 := cellN_of e1
      rw [ha, add_plain] at e0 e1
      simp only [List.getElem_map, List.getElem_range, f0, f1]
      exact ⟨hp, hq, e0, by rw [← Nat.add_assoc] at e1; exact e1⟩

end Go.Proofs.Ytfgjeflhhfjgeaa
namespace Go.Proofs.Ytfgjeflhhfjgeaa
open Go.ChangeShapes Go.WideShapes Go.ChangeAt Go.RowKit Go.Deep
variable {H : Type} {enc : TypeId × Value → H} {P : Program} {w : World} {base : Nat} {spare : Nat → Bool} {held : Bool}

/-- triples of bytes that lie one behind the other -/
def RowM (w : World) (A : Option Addr) (x : List (Nat × Nat × Nat)) : Prop :=
  x ≠ [] → ∃ b o, A = some ⟨b, o, none⟩ ∧ b < w.heap.size ∧ ∀ i, (h : i < x.length) → x[i].1 < 256 ∧ x[i].2.1 < 256 ∧ x[i].2.2 < 256 ∧ w.cell? ⟨b, o + i * 3, none⟩ = some (.int .u8 (x[i].1 : Nat)) ∧ w.cell? ⟨b, o + i * 3 + 1, none⟩ = some (.int .u8 (x[i].2.1 : Nat)) ∧ w.cell? ⟨b, o + i * 3 + 2, none⟩ = some (.int .u8 (x[i].2.2 : Nat))
theorem RowM.below {w w' : World} {A : Option Addr} {x : List (Nat × Nat × Nat)} (h : RowM w A x) (hb : Below w.heap.size w w') : RowM w' A x := fun hl => by
  obtain ⟨b, o, e, h1, h2⟩ := h hl
  refine ⟨b, o, e, Nat.lt_of_lt_of_le h1 hb.size, fun i hi => ?_⟩
  obtain ⟨p, q, r, c0, c1, c2⟩ := h2 i hi
  exact ⟨p, q, r, (hb.cell (p := ⟨b, _, none⟩) h1).trans c0, (hb.cell (p := ⟨b, _, none⟩) h1).trans c1, (hb.cell (p := ⟨b, _, none⟩) h1).trans c2⟩
theorem RowN.below {w w' : World} {A : Option Addr} {x : List (Nat × Nat)} (h : RowN w A x) (hb : Below w.heap.size w w') : RowN w' A x := fun hl => by
  obtain ⟨b, o, e, h1, h2⟩ := h hl
  refine ⟨b, o, e, Nat.lt_of_lt_of_le h1 hb.size, fun i hi => ?_⟩
  obtain ⟨p, q, c0, c1⟩ := h2 i hi
  exact ⟨p, q, (hb.cell (p := ⟨b, _, none⟩) h1).trans c0, (hb.cell (p := ⟨b, _, none⟩) h1).trans c1⟩
/-- three bytes of an array -/
theorem trod_thr {e b : TypeId} {fuel : Nat} {u v z : Value} {x : DataW H × List MemPlace} (he : P.underlying e = some (.array 3 b)) (cB : P.cellsOf b = 1) (hb : P.underlying b = some (.int .u8)) (h : DataW.trod enc P w base spare held fuel e [u, v, z] = some x) :
    ∃ p q r : Nat, u = .int .u8 p ∧ v = .int .u8 q ∧ z = .int .u8 r ∧ p < 256 ∧ q < 256 ∧ r < 256 := by
  obtain ⟨xs, m', _, _, _, hxl, hxs⟩ := DataW.trod_array he h
  have h0 := hxs 0 (by decide)
  have h1 := hxs 1 (by decide)
  have h2 := hxs 2 (by decide)
  rw [cB] at h0 h1 h2
  match xs, hxl with
  | [y0, y1, y2], _ =>
    obtain ⟨n0, e0, -, w0⟩ := DataW.trod_int (cs := [u]) hb (by simpa using h0)
    obtain ⟨n1, e1, -, w1⟩ := DataW.trod_int (cs := [v]) hb (by simpa using h1)
    obtain ⟨n2, e2, -, w2⟩ := DataW.trod_int (cs := [z]) hb (by simpa using h2)
    simp only [List.cons.injEq, and_true] at e0 e1 e2
    obtain ⟨k0, l0⟩ := u8_nat w0
    obtain ⟨k1, l1⟩ := u8_nat w1
    obtain ⟨k2, l2⟩ := u8_nat w2
    exact ⟨n0.toNat, n1.toNat, n2.toNat, by rw [e0, ← k0], by rw [e1, ← k1], by rw [e2, ← k2], l0, l1, l2⟩
/-- three bytes by value -/
theorem open_thr {e b : TypeId} {r : Reach} {b0 : Nat} {v : Value} {d : DataW H} {p : List MemPlace} (he : P.underlying e = some (.array 3 b)) (cE : P.cellsOf e = 3) (cB : P.cellsOf b = 1) (hb : P.underlying b = some (.int .u8))
    (hv : Value.okWide P w r b0 e v) (h : DataW.Trod enc P w base spare held e v d p) :
    ∃ x y z : Nat, v = .agg #[.int .u8 x, .int .u8 y, .int .u8 z] ∧ x < 256 ∧ y < 256 ∧ z < 256 := by
  obtain ⟨cs, rfl, hsz, _⟩ : ∃ cs, v = .agg cs ∧ cs.size = P.cellsOf e ∧ Row.okWide P w r b0 e cs := by
    simpa [Value.okWide, he] using hv
  rw [cE] at hsz
  obtain ⟨l⟩ := cs
  match l, hsz with
  | [c0, c1, c2], _ =>
    obtain ⟨fuel, hf⟩ := h
    obtain ⟨x, y, z, rfl, rfl, rfl, hx, hy, hz⟩ := trod_thr he cB hb (u := c0) (v := c1) (z := c2) (by simpa [Value.cells] using hf)
    exact ⟨x, y, z, rfl, hx, hy, hz⟩
theorem cell_pairs {s e b : TypeId} {n : Nat} {c0 : Value} {y0 : DataW H × List MemPlace} (hs : P.underlying s = some (.slice e))
    (he : P.underlying e = some (.array 2 b)) (cE : P.cellsOf e = 2) (cB : P.cellsOf b = 1) (hb : P.underlying b = some (.int .u8)) (h : DataW.trod enc P w base spare held n s [c0] = some y0) :
    ∃ A x c, c0 = .slice A (x : List (Nat × Nat)).length c ∧ x.length ≤ maxLen ∧ RowN w A x := by
  rcases open_slice hs h with ⟨hc, -⟩ | ⟨a, len, cap, m, k, D, Pl, hc, hbase, hle, hcap, hm, -, hel⟩
  · simp only [List.cons.injEq, and_true] at hc
    subst hc
    exact ⟨none, [], 0, rfl, Nat.zero_le _, fun h => absurd rfl h⟩
  · simp only [List.cons.injEq, and_true] at hc
    subst hc
    have hml : len ≤ m := by rw [hm]; split <;> omega
    have key : ∀ i, i < len → ∃ p q : Nat, w.cell? (a.add (i * 2)) = some (.int .u8 p) ∧ w.cell? (a.add (i * 2 + 1)) = some (.int .u8 q) ∧ p < 256 ∧ q < 256 := fun i hi => by
      obtain ⟨cs', hcells, htr⟩ := hel i (by omega)
      rw [cE] at hcells
      obtain ⟨_, hlen, hcell⟩ := World.cells?_some hcells
      match cs', hlen with
      | [u, v], _ =>
        obtain ⟨p, q, rfl, rfl, hp, hq⟩ := trod_two he cB hb htr
        have k0 := hcell 0 (by decide)
        have k1 := hcell 1 (by decide)
        rw [Addr.add_add] at k0 k1
        exact ⟨p, q, by simpa using k0, by simpa using k1, hp, hq⟩
    refine ⟨some a, (List.range len).map fun i => (cellN w (a.add (i * 2)), cellN w (a.add (i * 2 + 1))), cap, by simp, by simp; omega, fun hne => ?_⟩
    have hlen : 0 < len := by
      rcases Nat.eq_zero_or_pos len with h | h
      · subst h; exact absurd rfl hne
      · exact h
    obtain ⟨p0, q0, hc0, -⟩ := key 0 hlen
    have ha := addr_none (by simpa using hc0)
    have hlt := World.block_lt_of_cell? _ _ hc0
    rw [ha] at hlt
    refine ⟨a.block, a.off, by rw [← ha], by simpa [Addr.add] using hlt, fun i hi => ?_⟩
    have hi' : i < len := by simpa using hi
    obtain ⟨p, q, e0, e1, hp, hq⟩ := key i hi'
    have f0 := cellN_of e0
    have f1 := cellN_of e1
    rw [ha, add_plain] at e0 e1
    simp only [List.getElem_map, List.getElem_range, f0, f1]
    exact ⟨hp, hq, e0, by rw [← Nat.add_assoc] at e1; exact e1⟩
theorem cell_triples {s e b : TypeId} {n : Nat} {c0 : Value} {y0 : DataW H × List MemPlace} (hs : P.underlying s = some (.slice e))
    (he : P.underlying e = some (.array 3 b)) (cE : P.cellsOf e = 3) (cB : P.cellsOf b = 1) (hb : P.underlying b = some (.int .u8)) (h : DataW.trod enc P w base spare held n s [c0] = some y0) :
    ∃ A x c, c0 = .slice A (x : List (Nat × Nat × Nat)).length c ∧ x.length ≤ maxLen ∧ RowM w A x := by
  rcases open_slice hs h with ⟨hc, -⟩ | ⟨a, len, cap, m, k, D, Pl, hc, hbase, hle, hcap, hm, -, hel⟩
  · simp only [List.cons.injEq, and_true] at hc
    subst hc
    exact ⟨none, [], 0, rfl, Nat.zero_le _, fun h => absurd rfl h⟩
  · simp only [List.cons.injEq, and_true] at hc
    subst hc
    have hml : len ≤ m := by rw [hm]; split <;> omega
    have key : ∀ i, i < len → ∃ p q r : Nat, w.cell? (a.add (i * 3)) = some (.int .u8 p) ∧ w.cell? (a.add (i * 3 + 1)) = some (.int .u8 q) ∧ w.cell? (a.add (i * 3 + 2)) = some (.int .u8 r) ∧ p < 256 ∧ q < 256 ∧ r < 256 := fun i hi => by
      obtain ⟨cs', hcells, htr⟩ := hel i (by omega)
      rw [cE] at hcells
      obtain ⟨_, hlen, hcell⟩ := World.cells?_some hcells
      match cs', hlen with
      | [u, v, z], _ =>
        obtain ⟨p, q, r, rfl, rfl, rfl, hp, hq, hr⟩ := trod_thr he cB hb htr
        have k0 := hcell 0 (by decide)
        have k1 := hcell 1 (by decide)
        have k2 := hcell 2 (by decide)
        rw [Addr.add_add] at k0 k1 k2
        exact ⟨p, q, r, by simpa using k0, by simpa using k1, by simpa using k2, hp, hq, hr⟩
    refine ⟨some a, (List.range len).map fun i => (cellN w (a.add (i * 3)), cellN w (a.add (i * 3 + 1)), cellN w (a.add (i * 3 + 2))), cap, by simp, by simp; omega, fun hne => ?_⟩
    have hlen : 0 < len := by
      rcases Nat.eq_zero_or_pos len with h | h
      · subst h; exact absurd rfl hne
      · exact h
    obtain ⟨p0, q0, r0, hc0, -⟩ := key 0 hlen
    have ha := addr_none (by simpa using hc0)
    have hlt := World.block_lt_of_cell? _ _ hc0
    rw [ha] at hlt
    refine ⟨a.block, a.off, by rw [← ha], by simpa [Addr.add] using hlt, fun i hi => ?_⟩
    have hi' : i < len := by simpa using hi
    obtain ⟨p, q, r, e0, e1, e2, hp, hq, hr⟩ := key i hi'
    have f0 := cellN_of e0
    have f1 := cellN_of e1
    have f2 := cellN_of e2
    rw [ha, add_plain] at e0 e1 e2
    simp only [List.getElem_map, List.getElem_range, f0, f1, f2]
    exact ⟨hp, hq, hr, e0, by rw [← Nat.add_assoc] at e1; exact e1, by rw [← Nat.add_assoc] at e2; exact e2⟩
/-- a set as the laws draw it -/
theorem open_set {t tt s e b s2 e2 : TypeId} {f0 f1 g0 : Field} {r : Reach} {b0 : Nat} {v : Value} {d : DataW H} {p : List MemPlace} (ht : P.underlying t = some (.struct #[f0, f1])) (hft : f0.type = tt) (ho : f0.offset = 0) (hft1 : f1.type = s2) (ho1 : f1.offset = 1) (cT : P.cellsOf t = 2)
    (htt : P.underlying tt = some (.struct #[g0])) (hgt : g0.type = s) (hgo : g0.offset = 0) (cTT : P.cellsOf tt = 1) (cS : P.cellsOf s = 1) (hs : P.underlying s = some (.slice e))
    (he : P.underlying e = some (.array 2 b)) (cE : P.cellsOf e = 2) (cB : P.cellsOf b = 1) (hb : P.underlying b = some (.int .u8)) (cS2 : P.cellsOf s2 = 1) (hs2 : P.underlying s2 = some (.slice e2)) (he2 : P.underlying e2 = some (.array 3 b)) (cE2 : P.cellsOf e2 = 3)
    (hv : Value.okWide P w r b0 t v) (h : DataW.Trod enc P w base spare held t v d p) :
    ∃ A x c B y c2, v = .agg #[.slice A (x : List (Nat × Nat)).length c, .slice B (y : List (Nat × Nat × Nat)).length c2] ∧ x.length ≤ maxLen ∧ RowN w A x ∧ y.length ≤ maxLen ∧ RowM w B y := by
  obtain ⟨cs, rfl, hsz⟩ := okWide_struct ht hv
  obtain ⟨l⟩ := cs
  match l, hsz.trans cT with
  | [c0, c1], _ =>
    obtain ⟨fuel, hf⟩ := h
    obtain ⟨y0, y1, n, _, _, h0, h1⟩ := trod_struct2 ht hf
    rw [hft, ho, cTT] at h0
    rw [hft1, ho1, cS2] at h1
    have h0' : DataW.trod enc P w base spare held n tt [c0] = some y0 := by simpa [Value.cells] using h0
    have h1' : DataW.trod enc P w base spare held n s2 [c1] = some y1 := by simpa [Value.cells] using h1
    obtain ⟨z0, n2, _, _, h2⟩ := trod_struct1 htt h0'
    rw [hgt, hgo, cS] at h2
    have h2' : DataW.trod enc P w base spare held n2 s [c0] = some z0 := by simpa using h2
    obtain ⟨A, x, c, rfl, hx, hR⟩ := cell_pairs hs he cE cB hb h2'
    obtain ⟨B, y, c2, rfl, hy, hM⟩ := cell_triples hs2 he2 cE2 cB hb h1'
    exact ⟨A, x, c, B, y, c2, rfl, hx, hR, hy, hM⟩
end Go.Proofs.Ytfgjeflhhfjgeaa
namespace Go.Proofs.Ytfgjeflhhfjgeaa.DT
open Go.RowKit Go.Deep

/-- a list of tuples stays where a set is written -/
theorem row_set2 {W : World} {g : Nat} {t : TypeId} {ov : Value} {p A : Option Addr} {l : List Tup} (h : Row W A l) (hg : W.heap[g]? = some (.cells #[ov, .pointer p] t (0, 0))) (ho : ov = fv ∨ ov = .nilFunc) (u v : Value) :
    Row ((W.setCell ⟨g, 0, none⟩ u).setCell ⟨g, 1, none⟩ v) A l := fun hl => by
  obtain ⟨b, o, e, hb, hL⟩ := h hl
  have hpos : 0 < l.length := List.length_pos_iff.2 hl
  have hne : ¬ b = g := fun hbg => by
    subst hbg
    have h0 := hL 0 hpos 0 _ rfl
    rw [box_cell hg] at h0
    rcases o with _ | _ | o
    · rcases ho with rfl | rfl <;> simp [fv] at h0
    · simp at h0
    · simp at h0
  exact ⟨b, o, e, by simpa using hb, fun i hi c x hx => set_cc hne (hL i hi c x hx)⟩
theorem keep11 {a b : World} {p0 p1 p2 p3 p4 p5 p6 p7 p8 p9 p10 o0 o1 o2 o3 o4 o5 o6 o7 o8 o9 o10 : Nat} {x0 x1 x2 x3 x4 x5 x6 x7 x8 x9 x10 : Value} (h : Below a.heap.size a b)
    (s : a.cell? ⟨p0, o0, none⟩ = some x0 ∧ a.cell? ⟨p1, o1, none⟩ = some x1 ∧ a.cell? ⟨p2, o2, none⟩ = some x2 ∧ a.cell? ⟨p3, o3, none⟩ = some x3 ∧ a.cell? ⟨p4, o4, none⟩ = some x4 ∧ a.cell? ⟨p5, o5, none⟩ = some x5 ∧ a.cell? ⟨p6, o6, none⟩ = some x6 ∧ a.cell? ⟨p7, o7, none⟩ = some x7 ∧ a.cell? ⟨p8, o8, none⟩ = some x8 ∧ a.cell? ⟨p9, o9, none⟩ = some x9 ∧ a.cell? ⟨p10, o10, none⟩ = some x10) :
    b.cell? ⟨p0, o0, none⟩ = some x0 ∧ b.cell? ⟨p1, o1, none⟩ = some x1 ∧ b.cell? ⟨p2, o2, none⟩ = some x2 ∧ b.cell? ⟨p3, o3, none⟩ = some x3 ∧ b.cell? ⟨p4, o4, none⟩ = some x4 ∧ b.cell? ⟨p5, o5, none⟩ = some x5 ∧ b.cell? ⟨p6, o6, none⟩ = some x6 ∧ b.cell? ⟨p7, o7, none⟩ = some x7 ∧ b.cell? ⟨p8, o8, none⟩ = some x8 ∧ b.cell? ⟨p9, o9, none⟩ = some x9 ∧ b.cell? ⟨p10, o10, none⟩ = some x10 :=
  ⟨keep1 h s.1, keep1 h s.2.1, keep1 h s.2.2.1, keep1 h s.2.2.2.1, keep1 h s.2.2.2.2.1, keep1 h s.2.2.2.2.2.1, keep1 h s.2.2.2.2.2.2.1, keep1 h s.2.2.2.2.2.2.2.1, keep1 h s.2.2.2.2.2.2.2.2.1, keep1 h s.2.2.2.2.2.2.2.2.2.1, keep1 h s.2.2.2.2.2.2.2.2.2.2⟩

theorem same_z {N M : List Tup} {z : Bool} (hz : decide (N = M) = z) : (sameI N M == 1) = z := by
  unfold sameI
  by_cases h : N = M
  · rw [if_pos h, ← hz, decide_eq_true h]; rfl
  · rw [if_neg h, ← hz, decide_eq_false h]; rfl
theorem rsame_g (A B : Option Addr) (l m : List Tup) (c d : Nat) (w : World) (v : Int) (hR : Row w A l) (hS : Row w B m) (hn : l.length ≤ 10000) (h : sameI l m = v) :
    Calls Try.prog 15 #[.slice A l.length c, .slice B m.length d] w fun e w' => e = .returned (.int .i64 v) ∧ Below w.heap.size w w' := by
  subst h; exact (rsame_n A B l m _ _ c d w hR hS rfl rfl hn).mono fun _ _ h => ⟨h.1, h.2.toBelow⟩
theorem lsame_g {w : World} {ov : Value} {T : Tr} {m : List Tup} (h : MapL w ov T m) (A : Option Addr) (c : Nat) (hR : Row w A m) (hm : m.length ≤ 10000) :
    Calls Try.prog 9 #[.agg #[ov, .pointer T.ad], .slice A m.length c] w fun e w' => e = .returned (.int .i64 1) ∧ Below w.heap.size w w' := lsame_any h A m c 1 hR hm (sameI_self m)
theorem same_g {w : World} {ov ov2 : Value} {T T2 : Tr} {l m : List Tup} (z : Bool) (hz : decide (l = m) = z) (h : MapL w ov T l) (h2 : MapL w ov2 T2 m) (hn : l.length ≤ 10000) (hm : m.length ≤ 10000) :
    Calls Try.prog 14 #[.agg #[ov, .pointer T.ad], .agg #[ov2, .pointer T2.ad]] w fun e w' => e = .returned (.bool z) ∧ Below w.heap.size w w' := by
  subst hz; exact same_l h h2 hn hm
theorem row_set1 {W : World} {g j : Nat} {z : Bool} {A : Option Addr} {l : List Tup} (h : Row W A l) (hg : W.cell? ⟨g, j, none⟩ = some (.bool z)) (u : Value) : Row (W.setCell ⟨g, j, none⟩ u) A l := fun hl => by
  obtain ⟨b, o, e, hb, hL⟩ := h hl
  refine ⟨b, o, e, by simpa using hb, fun i hi c x hx => ?_⟩
  have h0 := hL i hi c x hx
  have hc := enc_lt hx
  by_cases hne : (⟨g, j, none⟩ : Addr) = ⟨b, o + i * 6 + c, none⟩
  · rw [← hne, hg] at h0
    injection h0 with h0
    subst h0
    match c, hc with
    | 0, _ => cases hx
    | 1, _ => cases hx
    | 2, _ => cases hx
    | 3, _ => cases hx
    | 4, _ => cases hx
    | 5, _ => cases hx
  · exact (World.cell?_setCell_other W _ _ u hne).trans h0
theorem cells_ne {W : World} {g1 g2 : Nat} {a1 a2 : Array Value} {t1 t2 : TypeId} {z1 z2 : Nat × Nat} (h1 : W.heap[g1]? = some (.cells a1 t1 z1)) (h2 : W.heap[g2]? = some (.cells a2 t2 z2)) (ht : t1 ≠ t2) : ¬ g1 = g2 := fun e => by
  subst e
  rw [h1] at h2
  injection h2 with h2
  injection h2 with _ h2 _
  exact ht h2
theorem of_x {w : World} (A : Option Addr) (x : List (Nat × Nat)) (c : Nat) (hR : Row w A (ofT x)) :
    Calls Try.prog 7 #[.slice A (ofT x).length c] w (GivesS w (srt cmpT (ofT x), 0)) := by
  have q := of_l A (ofT x) c hR (fun t ht => ok_fits (ofT_ok x t ht)) (Nat.le_trans (ofT_len x) (by decide))
  rw [ofF_ofT] at q; exact q
theorem with_x (k : Tup) (d : Bool) (ho : okT k = true) {w : World} {ov : Value} {T : Tr} {l : List Tup} (h : MapL w ov T l) (hn : l.length ≤ 4000) :
    Calls Try.prog 11 #[.agg #[ov, .pointer T.ad], .agg #[.string k.a, .string k.b, .string k.c, .string k.d, .string k.e, .string k.f, .bool d]] w (GivesS w (nx l k d, 0)) := by
  have q := with_l k d (ok_fits ho) h (Nat.le_trans hn (by decide))
  rw [wth_nx d ho (by omega)] at q; exact q
theorem rwith_x (A : Option Addr) (l : List Tup) (c : Nat) (k : Tup) (d : Bool) (w : World) (hR : Row w A l) (hv : ∀ t ∈ l, okT t = true) (ho : okT k = true) (hl : Asc cmpT l) (hn : l.length ≤ 4000) :
    Calls Try.prog 12 #[.slice A l.length c, .agg #[.string k.a, .string k.b, .string k.c, .string k.d, .string k.e, .string k.f, .bool d]] w (GivesW w (nx l k d, 0)) := by
  have q := rwith_any A l c k d w hR (fun t ht => ok_fits (hv t ht)) (ok_fits ho) hl hn
  rw [wth_nx d ho (by omega)] at q; exact q
set_option maxRecDepth 20000 in
set_option maxHeartbeats 8000000 in
theorem play_walk (A : Option Addr) (x : List (Nat × Nat)) (c : Nat) (B : Option Addr) (y : List (Nat × Nat × Nat)) (c2 : Nat) (w : World) (hR : RowN w A x) (hx : x.length ≤ maxLen) (hM : RowM w B y) (hy : y.length ≤ maxLen) :
    Calls Try.prog 3 #[.agg #[.slice A x.length c, .slice B y.length c2]] w fun e w' => e = .returned (.bool true) ∧ Below w.heap.size w w' := by
  have hA : Below w.heap.size w (w.alloc (.cells #[.slice A x.length c, .slice B y.length c2] 27 (0, 0))) := g_alloc g_refl _
  have HA := hid hA
  have HBX := hid (box2p w (.slice A x.length c) (.slice B y.length c2) 27)
  have HM := hid (hM.below hA)
  have HT := hid (of_t A x c _ (hR.below hA) hx)
  have HY : Hid (y.length ≤ 9223372036854775807) := hid hy
  clear hA hR hx hM hy
  go_enter Try.func3, Try.ntmps3
  go_wp2_with fail
  generalize hA1 : w.alloc (.cells #[.slice A x.length c, .slice B y.length c2] 27 (0, 0)) = A1 at *
  generalize hq : w.heap.size = q at *
  have HQ := hid hq
  clear hA1 hq
  refine HT.out.mono ?_
  rintro _ w1 ⟨C, cC, rfl, hRC, hb1⟩
  have HRC := hid hRC
  have HB1 := hid hb1
  clear hRC hb1
  go_wp2_with fail
  refine (of_x C x cC HRC.out).mono ?_
  rintro _ w2 ⟨ov, T, rfl, hL2, hb2⟩
  have hst := store_ov hL2.ovs
  have HL2 := hid hL2
  have HB2 := hid (g_trans HB1.out hb2)
  have HRC2 := hid (HRC.out.below hb2)
  clear hL2 hb2
  go_wp2_with fail
  have hx4 := new_at w2 (.cells #[ov, .pointer T.ad] 35 (0, 0))
  refine (rsorted_t C (ofT x) cC _ (HRC2.out.below (g_alloc g_refl _)) (fun t ht => ok_fits (ofT_ok x t ht)) (Nat.le_trans (ofT_len x) (by decide))).mono ?_
  rintro _ w3 ⟨D, cD, rfl, hRD, hb3⟩
  have hB3 := g_trans (g_alloc (g_refl (a := w2)) (.cells #[ov, .pointer T.ad] 35 (0, 0))) hb3
  have hs3 := (hb3.block _ (Array.getElem?_eq_some_iff.1 hx4).1).trans hx4
  have HS3 := hid hs3
  have HL3 := hid (HL2.out.below hB3)
  have HB3 := hid hB3
  have HRD := hid hRD
  have m0 : w3.cell? ⟨w2.heap.size, 0, none⟩ = some ov := (box_cell hs3 0).trans rfl
  have m1 : w3.cell? ⟨w2.heap.size, 1, none⟩ = some (.pointer T.ad) := (box_cell hs3 1).trans rfl
  have hLok := srt_ok (ofT_ok x)
  have hLasc := asc_srt tot (ofT x)
  have hLlen := Nat.le_trans (length_srt (cmp := cmpT) (ofT x)) (ofT_len x)
  clear hx4 hb3 hB3 hs3 hRD HT
  generalize srt cmpT (ofT x) = L at *
  have HOK := hid hLok
  have HLN := hid hLlen
  clear hLok hLasc hLlen
  go_wp2_with fail
  refine (lsame_any HL3.out D L cD 1 HRD.out (Nat.le_trans HLN.out (by decide)) (sameI_self L)).mono ?_
  rintro _ w4 ⟨rfl, hb4⟩
  have hs4 := (hb4.block _ (Array.getElem?_eq_some_iff.1 HS3.out).1).trans HS3.out
  have HB24 := hid (g_trans HB3.out hb4)
  have HL4 := hid (HL3.out.below hb4)
  have HRD4 := hid (HRD.out.below hb4)
  have HXW := hid (keep2 (g_trans HB1.out (show Below w1.heap.size w1 w1 from g_refl)) HBX.out)
  have HX2 := hid (keep2 HB2.out HBX.out)
  have HM2 := hid (HM.out.below HB2.out)
  have HS4 := hid hs4
  clear m0 m1 hb4 hs4 HL3 HRD HS3 HB3 HRC HRC2 HXW HL2 hst
  generalize hb : w2.heap.size = b4 at *
  have HBS := hid hb
  clear hb
  go_wp2
  go_loopw [6, 7] (fun v i wr => ∃ (k : Nat) (ov : Value) (T : Tr) (L : List Tup) (D : Option Addr) (cD : Nat), k ≤ 30 ∧ i = .int .i64 k ∧ v = .slice D L.length cD ∧ Row wr D L ∧ wr.heap[b4]? = some (.cells #[ov, .pointer T.ad] 35 (0, 0)) ∧ MapL wr ov T L ∧ (∀ t ∈ L, okT t = true) ∧ L.length ≤ 20 + k ∧ Below w2.heap.size w2 wr) (fun _ i _ => 30 - (intOf i).toNat)
  case atStart => exact ⟨0, ov, T, L, D, cD, by omega, rfl, rfl, HRD4.out, HS4.out, HL4.out, HOK.out, HLN.out, by have h := HBS.out; rw [h]; exact HB24.out⟩
  case round =>
    clear HRD4 HS4 HL4 HOK HLN HB24
    obtain ⟨k, o1, T1, M, E, cE, hk, rfl, rfl, hRE, hs, hL, hok, hlen, hw⟩ := hrel
    obtain ⟨z0, z1⟩ := keep2 (show Below w2.heap.size w2 wr from hw) HX2.out
    have HK := hid hk
    by_cases hlt : k < y.length
    · by_cases h30 : k < 30
      · have i1 : (k : Int) < (y.length : Int) := by omega
        have i2 : (k : Int) < 30 := by omega
        obtain ⟨b, o, rfl, hbl, hel⟩ := (HM2.out.below hw) (fun e => by rw [e] at hlt; simp at hlt)
        obtain ⟨hp, hq, hr, e0, e1, e2⟩ := hel k hlt
        obtain ⟨t, ht⟩ : ∃ t, one y[k].1 y[k].2.1 = t := ⟨_, rfl⟩
        obtain ⟨d, hd⟩ : ∃ d, decide (y[k].2.2 % 2 = 1) = d := ⟨_, rfl⟩
        have hot : okT t = true := by rw [← ht]; exact one_ok _ _
        have HCH := hid (fun W => change_any y[k].1 y[k].2.1 y[k].2.2 W hp hq hr t ht d hd)
        have HOT := hid hot
        have HRE := hid hRE
        have HS := hid hs
        have HL := hid hL
        have HOK := hid hok
        have HLN := hid hlen
        have HW := hid hw
        have m0 : wr.cell? ⟨b4, 0, none⟩ = some o1 := (box_cell hs 0).trans rfl
        have m1 : wr.cell? ⟨b4, 1, none⟩ = some (.pointer T1.ad) := (box_cell hs 1).trans rfl
        have hst := store_ov hL.ovs
        have HOV := hid hL.ovs
        have HASC := hid hL.asc
        generalize y[k].1 = yp at *
        generalize y[k].2.1 = yq at *
        generalize y[k].2.2 = yr at *
        clear hk hp hq hr ht hd hot hRE hs hL hok hlen hw hbl hel
        go_wp2_with fail
        refine (HCH.out _).mono ?_
        rintro _ w5 ⟨rfl, hb5⟩
        clear e0 e1 e2 z0 z1 m0 m1
        have hs5 := (hb5.block _ (Array.getElem?_eq_some_iff.1 HS.out).1).trans HS.out
        have hs6 := new_old (o := (.cells #[.string t.a, .string t.b, .string t.c, .string t.d, .string t.e, .string t.f, .bool d] 49 (0, 0))) hs5
        have hc6 := new_at w5 (.cells #[.string t.a, .string t.b, .string t.c, .string t.d, .string t.e, .string t.f, .bool d] 49 (0, 0))
        have m2 : (w5.alloc (.cells #[.string t.a, .string t.b, .string t.c, .string t.d, .string t.e, .string t.f, .bool d] 49 (0, 0))).cell? ⟨b4, 0, none⟩ = some o1 := (box_cell hs6 0).trans rfl
        have m3 : (w5.alloc (.cells #[.string t.a, .string t.b, .string t.c, .string t.d, .string t.e, .string t.f, .bool d] 49 (0, 0))).cell? ⟨b4, 1, none⟩ = some (.pointer T1.ad) := (box_cell hs6 1).trans rfl
        have hs7 := new_old (o := (.cells #[o1, .pointer T1.ad] 35 (0, 0))) hs6
        have hc7 := new_old (o := (.cells #[o1, .pointer T1.ad] 35 (0, 0))) hc6
        have ho7 := new_at (w5.alloc (.cells #[.string t.a, .string t.b, .string t.c, .string t.d, .string t.e, .string t.f, .bool d] 49 (0, 0))) (.cells #[o1, .pointer T1.ad] 35 (0, 0))
        rw [show (w5.alloc (.cells #[.string t.a, .string t.b, .string t.c, .string t.d, .string t.e, .string t.f, .bool d] 49 (0, 0))).heap.size = w5.heap.size + 1 by simp] at ho7
        have hA7 := g_alloc (g_alloc hb5 (.cells #[.string t.a, .string t.b, .string t.c, .string t.d, .string t.e, .string t.f, .bool d] 49 (0, 0))) (.cells #[o1, .pointer T1.ad] 35 (0, 0))
        have cs := fun j => box_cell hs7 j
        have cc := fun j => box_cell hc7 j
        have n0 : ((w5.alloc (.cells #[.string t.a, .string t.b, .string t.c, .string t.d, .string t.e, .string t.f, .bool d] 49 (0, 0))).alloc (.cells #[o1, .pointer T1.ad] 35 (0, 0))).cell? ⟨b4, 0, none⟩ = some o1 := (cs 0).trans rfl
        have n1 : ((w5.alloc (.cells #[.string t.a, .string t.b, .string t.c, .string t.d, .string t.e, .string t.f, .bool d] 49 (0, 0))).alloc (.cells #[o1, .pointer T1.ad] 35 (0, 0))).cell? ⟨b4, 1, none⟩ = some (.pointer T1.ad) := (cs 1).trans rfl
        have d0 : ((w5.alloc (.cells #[.string t.a, .string t.b, .string t.c, .string t.d, .string t.e, .string t.f, .bool d] 49 (0, 0))).alloc (.cells #[o1, .pointer T1.ad] 35 (0, 0))).cell? ⟨w5.heap.size, 0, none⟩ = some (.string t.a) := (cc 0).trans rfl
        have d1 : ((w5.alloc (.cells #[.string t.a, .string t.b, .string t.c, .string t.d, .string t.e, .string t.f, .bool d] 49 (0, 0))).alloc (.cells #[o1, .pointer T1.ad] 35 (0, 0))).cell? ⟨w5.heap.size, 1, none⟩ = some (.string t.b) := (cc 1).trans rfl
        have d2 : ((w5.alloc (.cells #[.string t.a, .string t.b, .string t.c, .string t.d, .string t.e, .string t.f, .bool d] 49 (0, 0))).alloc (.cells #[o1, .pointer T1.ad] 35 (0, 0))).cell? ⟨w5.heap.size, 2, none⟩ = some (.string t.c) := (cc 2).trans rfl
        have d3 : ((w5.alloc (.cells #[.string t.a, .string t.b, .string t.c, .string t.d, .string t.e, .string t.f, .bool d] 49 (0, 0))).alloc (.cells #[o1, .pointer T1.ad] 35 (0, 0))).cell? ⟨w5.heap.size, 3, none⟩ = some (.string t.d) := (cc 3).trans rfl
        have d4 : ((w5.alloc (.cells #[.string t.a, .string t.b, .string t.c, .string t.d, .string t.e, .string t.f, .bool d] 49 (0, 0))).alloc (.cells #[o1, .pointer T1.ad] 35 (0, 0))).cell? ⟨w5.heap.size, 4, none⟩ = some (.string t.e) := (cc 4).trans rfl
        have d5 : ((w5.alloc (.cells #[.string t.a, .string t.b, .string t.c, .string t.d, .string t.e, .string t.f, .bool d] 49 (0, 0))).alloc (.cells #[o1, .pointer T1.ad] 35 (0, 0))).cell? ⟨w5.heap.size, 5, none⟩ = some (.string t.f) := (cc 5).trans rfl
        have d6 : ((w5.alloc (.cells #[.string t.a, .string t.b, .string t.c, .string t.d, .string t.e, .string t.f, .bool d] 49 (0, 0))).alloc (.cells #[o1, .pointer T1.ad] 35 (0, 0))).cell? ⟨w5.heap.size, 6, none⟩ = some (.bool d) := (cc 6).trans rfl
        have HL7 := hid (HL.out.below hA7)
        have HRE7 := hid (HRE.out.below hA7)
        have HW7 := hid (g_trans HW.out hA7)
        have HS7 := hid hs7
        have HC7 := hid hc7
        have HO7 := hid ho7
        have HLT4 : Hid (b4 < w5.heap.size) := hid (Array.getElem?_eq_some_iff.1 hs5).1
        clear hs5 hs6 hc6 hs7 hc7 ho7 hA7 cs cc hb5 HS HL HRE HW HCH
        go_wp2_with fail
        refine (with_x t d HOT.out HL7.out (by have := HLN.out; omega)).mono ?_
        rintro _ w8 ⟨o2, T2, rfl, hL8, hb8⟩
        clear n0 n1 d0 d1 d2 d3 d4 d5 d6 m2 m3
        have hs8 := (hb8.block _ (Array.getElem?_eq_some_iff.1 HS7.out).1).trans HS7.out
        have hc8 := (hb8.block _ (Array.getElem?_eq_some_iff.1 HC7.out).1).trans HC7.out
        have ho8 := (hb8.block _ (Array.getElem?_eq_some_iff.1 HO7.out).1).trans HO7.out
        have hle4 : w2.heap.size ≤ b4 := Nat.le_of_eq HBS.out
        have hlt4 : b4 < w5.heap.size := HLT4.out
        have HB8 : Hid (w2.heap.size ≤ w5.heap.size) := hid (by have h1 := HLT4.out; have h2 := HBS.out; omega)
        generalize w5.heap.size = b8 at *
        have hB8 := g_trans HW7.out hb8
        have hl8 := hL8
        have hst2 := store_ov hL8.ovs
        obtain ⟨-, q1, q2, f0, f1⟩ := res2 hs8 g_refl
        have hls := (Array.getElem?_eq_some_iff.1 hs8).1
        have hlc := (Array.getElem?_eq_some_iff.1 hc8).1
        have hlo := (Array.getElem?_eq_some_iff.1 ho8).1
        have ne1 : ¬ b4 = w8.heap.size := by omega
        have ne2 : ¬ w8.heap.size = b4 := by omega
        have hs9 := new_old (o := .cells #[o2, .pointer T2.ad] 35 (0, 0)) (set2_heap hs8 o2 (.pointer T2.ad))
        have hc9 := new_old (o := .cells #[o2, .pointer T2.ad] 35 (0, 0)) (set2_other (g := b4) (by omega) hc8 o2 (.pointer T2.ad))
        have ho9 := new_old (o := .cells #[o2, .pointer T2.ad] 35 (0, 0)) (set2_other (g := b4) (by omega) ho8 o2 (.pointer T2.ad))
        have hB9 := g_alloc (g_set (g_set hB8 (p := ⟨b4, 0, none⟩) hle4 o2) (p := ⟨b4, 1, none⟩) hle4 (.pointer T2.ad)) (.cells #[o2, .pointer T2.ad] 35 (0, 0))
        have hL9 := (hL8.bod (set_two hs8 o2 (.pointer T2.ad)) (by decide)).below (g_alloc g_refl (.cells #[o2, .pointer T2.ad] 35 (0, 0)))
        have hLo9 := ((HL7.out.below hb8).bod (set_two hs8 o2 (.pointer T2.ad)) (by decide)).below (g_alloc g_refl (.cells #[o2, .pointer T2.ad] 35 (0, 0)))
        have d0 : (((w8.setCell ⟨b4, 0, none⟩ o2).setCell ⟨b4, 1, none⟩ (.pointer T2.ad)).alloc (.cells #[o2, .pointer T2.ad] 35 (0, 0))).cell? ⟨b8, 0, none⟩ = some (.string t.a) := (box_cell hc9 0).trans rfl
        have d1 : (((w8.setCell ⟨b4, 0, none⟩ o2).setCell ⟨b4, 1, none⟩ (.pointer T2.ad)).alloc (.cells #[o2, .pointer T2.ad] 35 (0, 0))).cell? ⟨b8, 1, none⟩ = some (.string t.b) := (box_cell hc9 1).trans rfl
        have d2 : (((w8.setCell ⟨b4, 0, none⟩ o2).setCell ⟨b4, 1, none⟩ (.pointer T2.ad)).alloc (.cells #[o2, .pointer T2.ad] 35 (0, 0))).cell? ⟨b8, 2, none⟩ = some (.string t.c) := (box_cell hc9 2).trans rfl
        have d3 : (((w8.setCell ⟨b4, 0, none⟩ o2).setCell ⟨b4, 1, none⟩ (.pointer T2.ad)).alloc (.cells #[o2, .pointer T2.ad] 35 (0, 0))).cell? ⟨b8, 3, none⟩ = some (.string t.d) := (box_cell hc9 3).trans rfl
        have d4 : (((w8.setCell ⟨b4, 0, none⟩ o2).setCell ⟨b4, 1, none⟩ (.pointer T2.ad)).alloc (.cells #[o2, .pointer T2.ad] 35 (0, 0))).cell? ⟨b8, 4, none⟩ = some (.string t.e) := (box_cell hc9 4).trans rfl
        have d5 : (((w8.setCell ⟨b4, 0, none⟩ o2).setCell ⟨b4, 1, none⟩ (.pointer T2.ad)).alloc (.cells #[o2, .pointer T2.ad] 35 (0, 0))).cell? ⟨b8, 5, none⟩ = some (.string t.f) := (box_cell hc9 5).trans rfl
        have d6 : (((w8.setCell ⟨b4, 0, none⟩ o2).setCell ⟨b4, 1, none⟩ (.pointer T2.ad)).alloc (.cells #[o2, .pointer T2.ad] 35 (0, 0))).cell? ⟨b8, 6, none⟩ = some (.bool d) := (box_cell hc9 6).trans rfl
        have HS9 := hid hs9
        have HC9 := hid hc9
        have HO9 := hid ho9
        have HB9 := hid hB9
        have HL9 := hid hL9
        have HLO9 := hid hLo9
        have HRE9 := hid ((row_set2 (HRE7.out.below hb8) hs8 HOV.out o2 (.pointer T2.ad)).below (g_alloc g_refl (.cells #[o2, .pointer T2.ad] 35 (0, 0))))
        clear hs9 hc9 ho9 hB9 hL9 hLo9 hB8
        clear hb8 hL8 hl8 HS7 HC7 HO7 HL7 HRE7 HW7 hst hs8 hc8 ho8
        go_wp2_with fail
        refine (rwith_x E M cE t d _ HRE9.out HOK.out HOT.out HASC.out (by have := HLN.out; omega)).mono ?_
        rintro _ w10 ⟨F, cF, rfl, hRF, hb10⟩
        generalize w8.heap.size = b11 at *
        have HBA := hid (g_trans HB9.out hb10)
        have hsA := (hb10.block _ (Array.getElem?_eq_some_iff.1 HS9.out).1).trans HS9.out
        have hcA := (hb10.block _ (Array.getElem?_eq_some_iff.1 HC9.out).1).trans HC9.out
        have hoA := (hb10.block _ (Array.getElem?_eq_some_iff.1 HO9.out).1).trans HO9.out
        have HSA := hid hsA
        have HCA := hid hcA
        have HOA := hid hoA
        have HLA := hid (HL9.out.below hb10)
        have HLOA := hid (HLO9.out.below hb10)
        have HRFA := hid hRF
        have HREA := hid (HRE9.out.below hb10)
        clear d0 d1 d2 d3 d4 d5 d6 q1 q2 f0 f1 hls hlc hlo ne1 ne2 hlt4 hst2 HS9 HC9 HO9 HB9 HL9 HLO9 HRE9 hRF hb10 hsA hcA hoA
        go_wp2_with fail
        have hS : w10.drew.cell? ⟨b4, 0, none⟩ = some o2 ∧ w10.drew.cell? ⟨b4, 1, none⟩ = some (.pointer T2.ad) ∧ w10.drew.cell? ⟨b8 + 1, 0, none⟩ = some o1 ∧ w10.drew.cell? ⟨b8 + 1, 1, none⟩ = some (.pointer T1.ad) ∧ w10.drew.cell? ⟨b8, 0, none⟩ = some (.string t.a) ∧ w10.drew.cell? ⟨b8, 1, none⟩ = some (.string t.b) ∧ w10.drew.cell? ⟨b8, 2, none⟩ = some (.string t.c) ∧ w10.drew.cell? ⟨b8, 3, none⟩ = some (.string t.d) ∧ w10.drew.cell? ⟨b8, 4, none⟩ = some (.string t.e) ∧ w10.drew.cell? ⟨b8, 5, none⟩ = some (.string t.f) ∧ w10.drew.cell? ⟨b8, 6, none⟩ = some (.bool d) := by
          have cs := fun j => box_cell HSA.out j
          have cc := fun j => box_cell HCA.out j
          have co := fun j => box_cell HOA.out j
          exact ⟨(cs 0).trans rfl, (cs 1).trans rfl, (co 0).trans rfl, (co 1).trans rfl, (cc 0).trans rfl, (cc 1).trans rfl, (cc 2).trans rfl, (cc 3).trans rfl, (cc 4).trans rfl, (cc 5).trans rfl, (cc 6).trans rfl⟩
        have hNlen := nx_len M t d
        have HNL : Hid ((nx M t d).length ≤ 10000) := hid (by have := HLN.out; omega)
        have HML : Hid (M.length ≤ 10000) := hid (by have := HLN.out; omega)
        obtain ⟨z, hz⟩ : ∃ z, (!d) = z := ⟨_, rfl⟩
        have hzd : (z == d) = false := by rw [← hz]; cases d <;> rfl
        have HH := hid (nx_has M t d)
        rw [hz] at HH
        obtain ⟨e, he⟩ : ∃ e, decide (nx M t d = M) = e := ⟨_, rfl⟩
        obtain ⟨v, hv⟩ : ∃ v, sameI (nx M t d) M = v := ⟨_, rfl⟩
        have hve : (v == 1) = e := by rw [← hv]; exact same_z he
        have HE := hid he
        have HV := hid hv
        have HDL : Hid (MapL w10.drew o2 T2 (nx M t d)) := hid (HLA.out.below (g_drew g_refl))
        have HDO : Hid (MapL w10.drew o1 T1 M) := hid (HLOA.out.below (g_drew g_refl))
        have HDF : Hid (Row w10.drew F (nx M t d)) := hid (HRFA.out.below (g_drew g_refl))
        have HDE : Hid (Row w10.drew E M) := hid (HREA.out.below (g_drew g_refl))
        have HASC2 := hid (nx_asc HASC.out t d)
        have HOK2 := hid (nx_ok HOK.out HOT.out d)
        have HZ := hid hz
        have HNLEN := hid hNlen
        have HBACK := hid (fun h => nx_back HASC.out (k := t) (d := d) h)
        clear hNlen he hv hz
        generalize hN : nx M t d = N at *
        go_cut [96] (fun s wx => s = .bool false ∧ Below w10.heap.size w10 wx)
        case first =>
          go_region_held3 (fun w' => w'.cell? ⟨b4, 0, none⟩ = some o2 ∧ w'.cell? ⟨b4, 1, none⟩ = some (.pointer T2.ad) ∧ w'.cell? ⟨b8 + 1, 0, none⟩ = some o1 ∧ w'.cell? ⟨b8 + 1, 1, none⟩ = some (.pointer T1.ad) ∧ w'.cell? ⟨b8, 0, none⟩ = some (.string t.a) ∧ w'.cell? ⟨b8, 1, none⟩ = some (.string t.b) ∧ w'.cell? ⟨b8, 2, none⟩ = some (.string t.c) ∧ w'.cell? ⟨b8, 3, none⟩ = some (.string t.d) ∧ w'.cell? ⟨b8, 4, none⟩ = some (.string t.e) ∧ w'.cell? ⟨b8, 5, none⟩ = some (.string t.f) ∧ w'.cell? ⟨b8, 6, none⟩ = some (.bool d)) (first | with_reducible assumption | exact keep11 (by with_reducible assumption) (by with_reducible assumption))
            (first
            | (go_at_call 9; (with_reducible refine Calls.mono (lsame_g HDL.out F cF HDF.out HNL.out) ?_); rintro _ x1 ⟨rfl, hc1⟩; have hB1 := hc1)
            | (go_at_call 9; (with_reducible refine Calls.mono (lsame_g (HDO.out.below hB1) E cE (HDE.out.below hB1) HML.out) ?_); rintro _ x2 ⟨rfl, hc2⟩; have hB2 := g_trans hB1 hc2)
            | (go_at_call 13; (with_reducible refine Calls.mono (has_l t z HH.out (HDL.out.below hB2) (Nat.le_trans HNL.out (by decide))) ?_); rintro _ x3 ⟨rfl, hc3⟩; have hB3 := g_trans hB2 hc3)
            | (go_at_call 14; (with_reducible refine Calls.mono (same_g e HE.out (HDL.out.below hB3) (HDO.out.below hB3) HNL.out HML.out) ?_); rintro _ x4 ⟨rfl, hc4⟩; have hB4 := g_trans hB3 hc4)
            | (go_at_call 14; (with_reducible refine Calls.mono (same_g e HE.out (HDL.out.below hB5) (HDO.out.below hB5) HNL.out HML.out) ?_); rintro _ x4 ⟨rfl, hc4⟩; have hB6 := g_trans hB5 hc4)
            | (go_at_call 15; (with_reducible refine Calls.mono (rsame_g F E N M cF cE _ v (HDF.out.below hB4) (HDE.out.below hB4) HNL.out HV.out) ?_); rintro _ x5 ⟨rfl, hc5⟩; have hB6 := g_trans hB4 hc5)
            | (go_at_call 15; (with_reducible refine Calls.mono (rsame_g F E N M cF cE _ v (HDF.out.below hB3) (HDE.out.below hB3) HNL.out HV.out) ?_); rintro _ x5 ⟨rfl, hc5⟩; have hB5 := g_trans hB3 hc5))
          all_goals
            go_wp2_with fail
            go_meet
            exact ⟨rfl, g_trans (g_drew g_refl) hB6⟩
        case rest =>
          obtain ⟨rfl, hB⟩ := hcut
          have hsC := (hB.block _ (Array.getElem?_eq_some_iff.1 HSA.out).1).trans HSA.out
          have hcC := (hB.block _ (Array.getElem?_eq_some_iff.1 HCA.out).1).trans HCA.out
          have hoC := (hB.block _ (Array.getElem?_eq_some_iff.1 HOA.out).1).trans HOA.out
          have hd6 : wc.cell? ⟨b8, 6, none⟩ = some (.bool d) := (box_cell hcC 6).trans rfl
          have fd6 : wc.frozen? ⟨b8, 6, none⟩ = false := box_frozen hcC 6
          have hz := HZ.out
          have hnb : ¬ b4 = b8 := cells_ne HSA.out HCA.out (by decide)
          have hnc : ¬ b8 + 1 = b8 := by omega
          have hb8 : w2.heap.size ≤ b8 := HB8.out
          have hsD := (heap_setCell_other wc ⟨b8, 6, none⟩ b4 (.bool z) hnb).trans hsC
          have hoD := (heap_setCell_other wc ⟨b8, 6, none⟩ (b8 + 1) (.bool z) hnc).trans hoC
          have hcD := heap_setCell_same wc b8 6 _ _ (.bool z) hcC
          have HLD := hid ((HLA.out.below hB).bod (Bod.set (o := 6) hcC (.bool z)) (by decide))
          have HLOD := hid ((HLOA.out.below hB).bod (Bod.set (o := 6) hcC (.bool z)) (by decide))
          have HRFD := hid (row_set1 (HRFA.out.below hB) hd6 (.bool z))
          have HRED := hid (row_set1 (HREA.out.below hB) hd6 (.bool z))
          have HBD := hid (g_set (g_trans HBA.out hB) (p := ⟨b8, 6, none⟩) hb8 (.bool z))
          have k0 : (wc.setCell ⟨b8, 6, none⟩ (.bool z)).cell? ⟨b8, 0, none⟩ = some (.string t.a) := (box_cell hcD 0).trans rfl
          have k1 : (wc.setCell ⟨b8, 6, none⟩ (.bool z)).cell? ⟨b8, 1, none⟩ = some (.string t.b) := (box_cell hcD 1).trans rfl
          have k2 : (wc.setCell ⟨b8, 6, none⟩ (.bool z)).cell? ⟨b8, 2, none⟩ = some (.string t.c) := (box_cell hcD 2).trans rfl
          have k3 : (wc.setCell ⟨b8, 6, none⟩ (.bool z)).cell? ⟨b8, 3, none⟩ = some (.string t.d) := (box_cell hcD 3).trans rfl
          have k4 : (wc.setCell ⟨b8, 6, none⟩ (.bool z)).cell? ⟨b8, 4, none⟩ = some (.string t.e) := (box_cell hcD 4).trans rfl
          have k5 : (wc.setCell ⟨b8, 6, none⟩ (.bool z)).cell? ⟨b8, 5, none⟩ = some (.string t.f) := (box_cell hcD 5).trans rfl
          have k6 : (wc.setCell ⟨b8, 6, none⟩ (.bool z)).cell? ⟨b8, 6, none⟩ = some (.bool z) := (box_cell hcD 6).trans rfl
          have k7 : (wc.setCell ⟨b8, 6, none⟩ (.bool z)).cell? ⟨b4, 0, none⟩ = some o2 := (box_cell hsD 0).trans rfl
          have k8 : (wc.setCell ⟨b8, 6, none⟩ (.bool z)).cell? ⟨b4, 1, none⟩ = some (.pointer T2.ad) := (box_cell hsD 1).trans rfl
          have HSD := hid hsD
          have HOD := hid hoD
          clear hsC hcC hoC hsD hoD hcD hB HSA HCA HOA HLA HLOA HRFA HREA HBA hS HDL HDO HDF HDE
          go_wp2_with fail
          refine (with_x t z HOT.out HLD.out (by have := HNLEN.out; have := HLN.out; omega)).mono ?_
          rintro _ w12 ⟨o3, T3, rfl, hL12, hb12⟩
          have hst3 := store_ov hL12.ovs
          have hA13 := g_alloc hb12 (.cells #[o3, .pointer T3.ad] 35 (0, 0))
          have hs13 := (hA13.block _ (Array.getElem?_eq_some_iff.1 HSD.out).1).trans HSD.out
          have ho13 := (hA13.block _ (Array.getElem?_eq_some_iff.1 HOD.out).1).trans HOD.out
          have hn13 := new_at w12 (.cells #[o3, .pointer T3.ad] 35 (0, 0))
          have HS13 := hid hs13
          have HO13 := hid ho13
          have HN13 := hid hn13
          have HLD13 := hid (HLD.out.below hA13)
          have HLOD13 := hid (HLOD.out.below hA13)
          have HLB13 := hid (hL12.below (g_alloc g_refl (.cells #[o3, .pointer T3.ad] 35 (0, 0))))
          have HRF13 := hid (HRFD.out.below hA13)
          have HRE13 := hid (HRED.out.below hA13)
          have HB13 := hid (g_trans HBD.out hA13)
          clear k0 k1 k2 k3 k4 k5 k6 k7 k8 hb12 hL12 hA13 hs13 ho13 hn13 HSD HOD HLD HLOD HRFD HRED HBD hd6 fd6
          cases e
          · have hne := of_decide_eq_false HE.out
            have hv0 : v = 0 := by rw [← HV.out]; unfold sameI; rw [if_neg hne]
            subst hv0
            go_wp2_with fail
            refine (rsame_g F E N M cF cE _ 0 HRF13.out HRE13.out HNL.out HV.out).mono ?_
            rintro _ w14 ⟨rfl, hb14⟩
            have j0 := (box_cell ((hb14.block _ (Array.getElem?_eq_some_iff.1 HN13.out).1).trans HN13.out) 0).trans rfl
            have j1 := (box_cell ((hb14.block _ (Array.getElem?_eq_some_iff.1 HN13.out).1).trans HN13.out) 1).trans rfl
            have j2 := (box_cell ((hb14.block _ (Array.getElem?_eq_some_iff.1 HO13.out).1).trans HO13.out) 0).trans rfl
            have j3 := (box_cell ((hb14.block _ (Array.getElem?_eq_some_iff.1 HO13.out).1).trans HO13.out) 1).trans rfl
            replace j0 : w14.cell? ⟨w12.heap.size, 0, none⟩ = some o3 := j0
            replace j1 : w14.cell? ⟨w12.heap.size, 1, none⟩ = some (.pointer T3.ad) := j1
            replace j2 : w14.cell? ⟨b8 + 1, 0, none⟩ = some o1 := j2
            replace j3 : w14.cell? ⟨b8 + 1, 1, none⟩ = some (.pointer T1.ad) := j3
            have hzz := HZ.out
            have HBK : Hid (decide (nx N t z = M) = true) := hid (decide_eq_true (by have := HBACK.out hne; rw [hzz] at this; exact this))
            have hnl : (nx N t z).length ≤ 10000 := by rw [of_decide_eq_true HBK.out]; exact HML.out
            have HB14 := hid hb14
            clear hb14 hne hst3
            go_wp2_with fail
            refine (same_g true HBK.out (HLB13.out.below HB14.out) (HLOD13.out.below HB14.out) hnl HML.out).mono ?_
            rintro _ w15 ⟨rfl, hb15⟩
            have HB15 := hid (g_trans HB14.out hb15)
            clear hb15 j0 j1 j2 j3 hnl
            go_wp2
            go_roundw
            case rel => exact ⟨k + 1, o2, T2, N, F, cF, by omega, by go_num, rfl, HRF13.out.below HB15.out, (HB15.out.block _ (Array.getElem?_eq_some_iff.1 HS13.out).1).trans HS13.out, HLD13.out.below HB15.out, HOK2.out, by have := HNLEN.out; have := HLN.out; omega, g_trans HB13.out HB15.out⟩
            case measure => simp [intOf]; omega
          · have heq := of_decide_eq_true HE.out
            have hv0 : v = 1 := by rw [← HV.out]; unfold sameI; rw [if_pos heq]
            subst hv0
            clear heq
            go_wp2_with fail
            refine (rsame_g F E N M cF cE _ 1 HRF13.out HRE13.out HNL.out HV.out).mono ?_
            rintro _ w14 ⟨rfl, hb14⟩
            have HB14 := hid hb14
            clear hb14
            go_wp2
            go_roundw
            case rel => exact ⟨k + 1, o2, T2, N, F, cF, by omega, by go_num, rfl, HRF13.out.below HB14.out, (HB14.out.block _ (Array.getElem?_eq_some_iff.1 HS13.out).1).trans HS13.out, HLD13.out.below HB14.out, HOK2.out, by have := HNLEN.out; have := HLN.out; omega, g_trans HB13.out HB14.out⟩
            case measure => simp [intOf]; omega
      · have i2 : ¬ (k : Int) < 30 := by omega
        have i1 : (k : Int) < (y.length : Int) := by omega
        have HB := hid (g_trans HB2.out hw)
        clear hRE hs hL hok hlen hw
        go_wp2_with fail
        refine (lives_any _).mono ?_
        rintro _ w5 ⟨rfl, hb5⟩
        go_wp2
        go_ret
        have h := HQ.out
        subst h
        exact ⟨rfl, g_trans (g_trans HA.out HB.out) hb5⟩
    · have i1 : ¬ (k : Int) < (y.length : Int) := by omega
      have HB := hid (g_trans HB2.out hw)
      clear hRE hs hL hok hlen hw
      go_wp2_with fail
      refine (lives_any _).mono ?_
      rintro _ w5 ⟨rfl, hb5⟩
      go_wp2
      go_ret
      have h := HQ.out
      subst h
      exact ⟨rfl, g_trans (g_trans HA.out HB.out) hb5⟩
end Go.Proofs.Ytfgjeflhhfjgeaa.DT
namespace Go.Proofs.Ytfgjeflhhfjgeaa.setsPlay
open DT Go.ChangeShapes Go.WideShapes Go.ChangeAt Go.RowKit

theorem own : ownKnob Try.prog.godebug = none := by kernel_rfl
theorem cSS : Try.prog.cellsOf 27 = 2 := by kernel_rfl
theorem cT : Try.prog.cellsOf 24 = 1 := by kernel_rfl
theorem cS : Try.prog.cellsOf 22 = 1 := by kernel_rfl
theorem cE : Try.prog.cellsOf 71 = 2 := by kernel_rfl
theorem cB : Try.prog.cellsOf 5 = 1 := by kernel_rfl
theorem cS2 : Try.prog.cellsOf 25 = 1 := by kernel_rfl
theorem cE2 : Try.prog.cellsOf 51 = 3 := by kernel_rfl
theorem laid : laidOutB Try.prog = true := by kernel_rfl

set_option maxRecDepth 100000 in
theorem lifted (os : Os) (started : os.Started) (H : Type) (enc : TypeId × Value → H) :
    ReturnsInHanded {} Try.checked os 3 .any (Rows.setsPlaySpec.pre6 enc Try.prog Try.f3 Rows.setsPlayRow.domain false) (Rows.setsPlaySpec.post enc Try.prog Try.f3 false true false false) := by
  refine returnsInHanded_of_change (C := Try.checked) own started (by kernel_rfl) Try.func3
    (ChangeSpec.witness6 (enc := enc) (C := Try.checked) false ⟨#[], #[.agg #[.slice none 0 0, .slice none 0 0]], []⟩ 8 (by kernel_rfl) (by kernel_rfl) (by kernel_rfl) (by kernel_rfl)) ?_
  intro W base args ds gs before hval0 hW hcnd _
  have hval : ∀ (j : Nat) t v, Try.f3.params[j]? = some t → args[j]? = some v → Value.okWide Try.prog W .any base t v := hval0
  have hW' := hW
  obtain ⟨p, q, hA0, hV, rfl, hfz, hnd⟩ := hW
  have hA : DataW.TrodAll enc Try.prog W 0 (fun _ => true) true Try.f3.params.toList args.toList ds p := hA0
  rw [Try.params3] at hA hval
  obtain ⟨v0, vs0, d0, ds0, p0, q0, hargs, rfl, rfl, h0, r0⟩ := trodAll_cons hA
  obtain ⟨rfl, rfl, rfl⟩ := trodAll_nil r0
  obtain rfl : args = #[v0] := by cases args; simp_all
  obtain ⟨rfl, rfl⟩ := trodVars_none hV
  have k0 := h0
  obtain ⟨A, x, c, B, y, c2, rfl, hx, hR, hy, hM⟩ := open_set Try.underlying27 rfl rfl rfl rfl cSS Try.underlying24 rfl rfl cT cS Try.underlying22 Try.underlying71 cE cB Try.underlying5 cS2 Try.underlying25 Try.underlying51 cE2 (hval 0 27 v0 rfl rfl) h0
  have hlt0 : ∀ x ∈ p0, x.block < W.heap.size := fun x hx => by simpa using hW'.lt x (by simp [hx])
  clear hA0 hval0
  refine (play_walk A x c B y c2 W hR hx hM hy).mono fun r W' ⟨he, hg⟩ => ?_
  subst he
  exact ⟨_, rfl, _, _, _, [], _, _, hW', trodAll_cons_mk (shut_bool Try.underlying4 _) trodAll_mk0,
    trodAll_cons_mk (Below.trod laid (by kernel_rfl) (of_decide_eq_true (by kernel_rfl)) k0 hg hlt0) trodAll_mk0, rfl, hg.frame _, fun h => by cases h⟩

theorem over : Rows.setsPlayRow.holds Try.pinned (OpenSpec.ofChange Rows.setsPlaySpec) :=
  OpenClaim.holds_of_wide 3 Try.f3 rfl rfl rfl rfl rfl rfl rfl ⟨rfl, rfl, rfl, rfl, rfl⟩ rfl rfl rfl rfl rfl (by kernel_rfl) Try.func3 (by kernel_rfl)
    (of_decide_eq_true (by kernel_rfl)) (by unfold Func.isWrapper; first | (rw [if_pos (by decide +kernel)]; kernel_rfl) | (rw [if_neg (by decide +kernel)]; exact ⟨rfl, rfl⟩))
    (fun os started H enc _ => lifted os started H enc)

theorem proved : Rows.SetsPlaySaid := over
end Go.Proofs.Ytfgjeflhhfjgeaa.setsPlay
