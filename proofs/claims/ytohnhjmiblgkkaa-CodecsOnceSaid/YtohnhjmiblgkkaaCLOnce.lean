/-
  CodecsOnce returns true: the walk.
-/
import Derived.Test.YtohnhjmiblgkkaaCOnce
import Derived.Test.YtohnhjmiblgkkaaCPB
import Derived.Deep.LoopGhost
import Derived.Deep.RegionWith
namespace Go.Proofs.Ytohnhjmiblgkkaa
open Go.RowKit
attribute [local go_sem] vV

/-- kinds with limits that came in -/
def KIn (W : World) (A : Option Addr) (K : List (Nat × Int)) : Prop :=
  K ≠ [] → ∃ g o, A = some ⟨g, o, none⟩ ∧ g < W.heap.size ∧ ∀ i (h : i < K.length), W.cell? ⟨g, o + i * 2, none⟩ = some (.int .u8 (K[i].1 : Int)) ∧ W.cell? ⟨g, o + i * 2 + 1, none⟩ = some (.int .i64 K[i].2) ∧ K[i].1 < 256 ∧ (-9223372036854775808 ≤ K[i].2 ∧ K[i].2 ≤ 9223372036854775807)
theorem bl_cell {B : Nat} {a b : World} {p i : Nat} {v : Value} (h : Below B a b) (hp : p < B) (hc : a.cell? ⟨p, i, none⟩ = some v) : b.cell? ⟨p, i, none⟩ = some v :=
  (World.cell?_of_block (w := a) (a := ⟨p, i, none⟩) (h.block p hp)).trans hc
/-- the cells of a value -/
def V8 (w : World) (p : Nat) (K n : Nat) (a b c d e f : ByteArray) : Prop :=
  p < w.heap.size ∧ (w.cell? ⟨p, 0, none⟩ = some (.int .u8 (K : Int)) ∧ w.cell? ⟨p, 1, none⟩ = some (.int .u64 (n : Int)) ∧ w.cell? ⟨p, 2, none⟩ = some (.string a) ∧ w.cell? ⟨p, 3, none⟩ = some (.string b) ∧ w.cell? ⟨p, 4, none⟩ = some (.string c) ∧ w.cell? ⟨p, 5, none⟩ = some (.string d) ∧ w.cell? ⟨p, 6, none⟩ = some (.string e) ∧ w.cell? ⟨p, 7, none⟩ = some (.string f)) ∧ w.frozen? ⟨p, 0, none⟩ = false

theorem failed_v {r : Nat} {A : Option Addr} {L : List UInt8} {s : St} {w : World} {b : Bool} (h : RS w r A L s) (hb : decide (s.fe ≠ 0) = b) :
    Calls Try.prog 21 #[.pointer (some ⟨r, 0, none⟩)] w fun x w' => x = .returned (.bool b) ∧ w' = w := by
  have := failed_any r A L s w h; rw [hb] at this; exact this
theorem at_v {r n : Nat} {A : Option Addr} {L : List UInt8} {s : St} {w : World} (h : RS w r A L s) (hn : s.at_ = n) :
    Calls Try.prog 18 #[.pointer (some ⟨r, 0, none⟩)] w fun e w' => e = .returned (.int .i64 (n : Int)) ∧ w' = w := by
  have := at_any r A L s w h; rw [hn] at this; exact this
theorem byO_take {w : World} {A : Option Addr} {L : List UInt8} (h : ByO w A L) (k : Nat) : ByO w A (L.take k) := fun hn => by
  obtain ⟨g, o, e, hg, hc⟩ := h (fun h0 => hn (by rw [h0]; simp))
  exact ⟨g, o, e, hg, fun i hi => by have := hc i (by rw [List.length_take] at hi; omega); simpa [List.getElem_take] using this⟩
theorem conv_k {W w : World} {A : Option Addr} {L : List UInt8} (c k : Nat) (h : ByO W A L) (hk : k ≤ L.length) (hb : Below W.heap.size W w) : (convert 25 9 (.slice A k c)).run Try.prog w = .ok (.string ⟨(L.take k).toArray⟩) w := by
  have := conv_o w A c (L.take k) (byO_take (h.below hb) k)
  rwa [show (L.take k).length = k by rw [List.length_take]; omega] at this
theorem put_step {W wc w1 : World} {r q p : Nat} {B : Option Addr} {L : List UInt8} {t t' : St} {v : Value} (K n : Nat) (a b c d e f : ByteArray) (hn : n < 18446744073709551616) (hs : (a.size ≤ L.length ∧ b.size ≤ L.length ∧ c.size ≤ L.length) ∧ (d.size ≤ L.length ∧ e.size ≤ L.length ∧ f.size ≤ L.length)) (hL : L.length ≤ 300)
    (hseg : Seg L t t' (vform K n a b c d e f)) (hW : WS wc q q v (L.take t.at_)) (hR : RS wc r B L t') (hb : Below W.heap.size W wc) (hg : wc.grownBy w1 (some p)) (hpq : p ≠ q) (hpr : p ≠ r) (hpv : v.ownBlock ≠ some p) (hpB : ∀ a, L ≠ [] → B = some a → a.block ≠ p) (hWp : W.heap.size ≤ p) (hWq : W.heap.size ≤ q) (hrq : r < q) (hBq : ∀ a, L ≠ [] → B = some a → a.block < q) :
    Calls Try.prog 10 #[.agg #[.int .u8 (K : Int), .int .u64 (n : Int), .string a, .string b, .string c, .string d, .string e, .string f], .pointer (some ⟨q, 0, none⟩)] w1 fun x w' => x = .returned (.tuple #[]) ∧ ∃ v', WS w' q q v' (L.take t'.at_) ∧ RS w' r B L t' ∧ Below W.heap.size W w' := by
  have hW1 := hW.other hg (Ne.symm hpq) hpv
  have hR1 := hR.other hg (Ne.symm hpr) (fun hn a ha => hpB a hn ha)
  have hb1 := gb_to_below hb hg hWp
  have hq : q ≤ w1.heap.size := Nat.le_of_lt hW1.lt
  have hlen : (L.take t.at_).length ≤ 300 := by rw [List.length_take]; omega
  have hown : ∀ k, v.ownBlock = some k → q ≤ k := fun k hk => (World.ownsRow.lt hW1.own k hk).1
  refine (vput_any (some ⟨q, 0, none⟩) q 0 v _ K n hn a b c d e f w1 ⟨.inr ⟨q, rfl, hW1, by omega, hq⟩, .inr (by omega)⟩ (.inr (by omega)) (.inr (by omega)) (.inr (by omega)) (.inr (by omega)) (.inr (by omega)) (.inr (by omega))).mono ?_
  rintro x w2 ⟨rfl, v', hx, hc⟩
  have hM : L.take t.at_ ++ vform K n a b c d e f = L.take t'.at_ := by
    rw [← hseg.2.2, show t'.at_ = t.at_ + (t'.at_ - t.at_) by have := hseg.1; omega, List.take_add, Nat.add_sub_cancel_left]
  rw [hM] at hx
  rcases hc with ⟨h, _⟩ | ⟨r1, h, hc⟩
  · cases h
  · injection h with h; injection h with h; subst h
    rcases hx.1 with h | ⟨r2, h, hws, _⟩
    · cases h
    · injection h with h; injection h with h; subst h
      refine ⟨rfl, v', hws, hR1.keep hc.size (fun k hk h => hc.block k hk ?_ ?_), hc.toBelow hb1 hWq (fun k hk => Nat.le_trans hWq (hown k hk))⟩
      · rcases h with rfl | ⟨hne, a1, ha, rfl⟩
        · omega
        · have := hBq a1 hne ha; omega
      · intro ho
        have h1 := hown k ho
        rcases h with rfl | ⟨hne, a1, ha, rfl⟩
        · omega
        · have := hBq a1 hne ha; omega
theorem get_v (r : Nat) (A : Option Addr) (L : List UInt8) (s : St) (kd : Nat) (l : Int) (hl : -9223372036854775808 ≤ l ∧ l ≤ 9223372036854775807) (n : Nat) (a b c d e f : ByteArray) (t : St) (hx : vrd L l kd s = ((n, (((a, b), c), ((d, e), f))), t)) (w : World) (h : RS w r A L s) :
    Calls Try.prog 15 #[.pointer (some ⟨r, 0, none⟩), .int .u8 (kd : Int), .int .i64 l] w fun y w' => y = .returned (vV (n, (((a, b), c), ((d, e), f)))) ∧ RS w' r A L t ∧ w.grownBy w' (some r) := by
  have h := get_any r A L s kd l hl w h
  rw [hx] at h
  exact h
theorem once_v (L : List UInt8) (l : Int) (hl : l ≤ 9223372036854775807) (kd : Nat) (s : St) (ho : s.ok L) (n : Nat) (a b c d e f : ByteArray) (t : St) (hx : vrd L l kd s = ((n, (((a, b), c), ((d, e), f))), t)) :
    t.ok L ∧ (t.fe ≠ 0 → t.at_ = s.at_) ∧ (t.fe = 0 → Seg L s t (vform (if kd % 13 = 12 then 0 else kd % 13) n a b c d e f)) ∧ n < 18446744073709551616 ∧ (a.size ≤ L.length ∧ b.size ≤ L.length ∧ c.size ≤ L.length) ∧ (d.size ≤ L.length ∧ e.size ≤ L.length ∧ f.size ≤ L.length) := by
  have h := once_any L l hl kd s ho
  rw [hx] at h
  exact ⟨h.ok, h.stay, h.seg, h.lt, h.sz.1, h.sz.2⟩

set_option maxRecDepth 20000 in
set_option maxHeartbeats 1000000 in
theorem once_walk (A : Option Addr) (c : Nat) (L : List UInt8) (A2 : Option Addr) (c2 : Nat) (Ks : List (Nat × Int)) (W : World) (hin : BIn W A L) (hc : L.length ≤ c) (h0 : A = none → c = 0) (hk : KIn W A2 Ks) (hc2 : Ks.length ≤ c2) :
    Calls Try.prog 5 #[.slice A L.length c, .slice A2 Ks.length c2] W fun e W' => e = .returned (.bool true) ∧ Below W.heap.size W W' := by
  have HI := hid (And.intro hin (And.intro hc h0))
  have HKI := hid (And.intro hk hc2)
  clear hin hc h0 hk hc2
  by_cases hb : L.length ≤ 300 ∧ Ks.length ≤ 20
  · obtain ⟨hb1, hb2⟩ := hb
    have HN := hid (And.intro hb1 hb2)
    generalize hn : L.length = n at *
    generalize hm : Ks.length = m at *
    have HL := hid hn
    have HM := hid hm
    have hm1 : ¬ (300 : Int) < (n : Int) := by omega
    have hm2 : ¬ (20 : Int) < (m : Int) := by omega
    clear hb1 hb2 hn hm
    go_enter Try.func5, Try.ntmps5
    go_wp2_with fail
    rw [← HL.out]
    refine (of_any A c L W HI.out.1.1 (by have := HI.out.2.1; have := HL.out; omega) HI.out.2.2 (by have := HL.out; have := HN.out.1; omega)).mono ?_
    rintro e w1 ⟨r, B, rfl, hR, hr, hB, hw1⟩
    rw [HL.out]
    have HS := hid (And.intro (hR.below (g_alloc g_refl (.cells #[.slice none 0 0] 27))) (And.intro (ws0 w1 w1.heap.size) (And.intro hR.lt (And.intro hr (And.intro (hi_alloc hw1 (Nat.le_refl _) : Below W.heap.size W (w1.alloc (.cells #[.slice none 0 0] 27))) (And.intro hw1.size (show ∀ a, L ≠ [] → B = some a → a.block < w1.heap.size from fun a hne ha => hR.dlt hne a ha)))))))
    have HBB := hid (show ∀ a, B = some a → W.heap.size ≤ a.block from hB)
    clear hR hr hB hw1 hm1 hm2
    go_wp2
    generalize w1.alloc (.cells #[.slice none 0 0] 27) = w2 at *
    generalize w1.heap.size = q at *
    go_loopg [7] 20 (fun k i wx => ∃ (j : Nat) (t : St) (v : Value), k = 20 - j ∧ j ≤ m ∧ i = .int .i64 j ∧ RS wx r B L t ∧ t.fe = 0 ∧ WS wx q q v (L.take t.at_) ∧ Below W.heap.size W wx)
    case atStart => exact ⟨0, ⟨0, 0, 0⟩, _, rfl, Nat.zero_le _, rfl, HS.out.1, rfl, HS.out.2.1, HS.out.2.2.2.2.1⟩
    case round =>
      obtain ⟨j, t, v, hk, hj, rfl, hR, hfe, hWS, hB⟩ := hrel
      have HK := hid (And.intro hk hj)
      have HQ := hid (And.intro hR (And.intro hfe (And.intro hWS hB)))
      clear hk hR hfe hWS hB
      by_cases hlt : j < m
      · have hlt2 : (j : Int) < (m : Int) := by omega
        have h0 : (0 : Int) ≤ (j : Int) := by omega
        have hjK : j < Ks.length := by have := HM.out; omega
        obtain ⟨g, o, hA2, hg, hcell⟩ := HKI.out.1 (fun e => by rw [e] at hjK; exact absurd hjK (Nat.not_lt_zero _))
        subst hA2
        obtain ⟨e0, e1, hkd, hl⟩ := hcell j hjK
        generalize Ks[j].1 = kd at *
        generalize Ks[j].2 = l at *
        have HJ := hid (And.intro hlt (And.intro hg (And.intro hkd hl)))
        have HKC := hid (show ∀ w', Below W.heap.size W w' → w'.cell? ⟨g, o + j * 2, none⟩ = some (.int .u8 (kd : Int)) ∧ w'.cell? ⟨g, o + j * 2 + 1, none⟩ = some (.int .i64 l) from fun w' hw => ⟨bl_cell hw hg e0, bl_cell hw hg e1⟩)
        clear hcell e0 e1 hkd hl hg hlt hj hjK
        go_wp2_with fail
        refine (at_any r B L t wr HQ.out.1).mono ?_
        rintro e x ⟨rfl, rfl⟩
        have hS := HKC.out x HQ.out.2.2.2
        obtain ⟨⟨⟨n0, ⟨⟨⟨a, b⟩, c0⟩, ⟨⟨d, e⟩, f⟩⟩⟩, t'⟩, hx⟩ : ∃ y : VT × St, vrd L l kd t = y := ⟨_, rfl⟩
        have HO := hid (once_v L l HJ.out.2.2.2.2 kd t HQ.out.1.ok n0 a b c0 d e f t' hx)
        have HX := hid hx
        clear hx
        have hne : x.heap.size ≠ r := by have := HQ.out.1.lt; omega
        have HZK := hid (show ∀ y, (x.alloc (.cells #[.int .u8 0, .int .u64 0, .string ⟨#[]⟩, .string ⟨#[]⟩, .string ⟨#[]⟩, .string ⟨#[]⟩, .string ⟨#[]⟩, .string ⟨#[]⟩] 31)).drew.grownBy y (some r) → x.heap.size < y.heap.size ∧ y.cell? ⟨x.heap.size, 0, none⟩ = some (.int .u8 0) ∧ y.frozen? ⟨x.heap.size, 0, none⟩ = false ∧ y.cell? ⟨x.heap.size, 1, none⟩ = some (.int .u64 0) ∧ y.frozen? ⟨x.heap.size, 1, none⟩ = false ∧ y.cell? ⟨x.heap.size, 2, none⟩ = some (.string ⟨#[]⟩) ∧ y.frozen? ⟨x.heap.size, 2, none⟩ = false ∧ y.cell? ⟨x.heap.size, 3, none⟩ = some (.string ⟨#[]⟩) ∧ y.frozen? ⟨x.heap.size, 3, none⟩ = false ∧ y.cell? ⟨x.heap.size, 4, none⟩ = some (.string ⟨#[]⟩) ∧ y.frozen? ⟨x.heap.size, 4, none⟩ = false ∧ y.cell? ⟨x.heap.size, 5, none⟩ = some (.string ⟨#[]⟩) ∧ y.frozen? ⟨x.heap.size, 5, none⟩ = false ∧ y.cell? ⟨x.heap.size, 6, none⟩ = some (.string ⟨#[]⟩) ∧ y.frozen? ⟨x.heap.size, 6, none⟩ = false ∧ y.cell? ⟨x.heap.size, 7, none⟩ = some (.string ⟨#[]⟩) ∧ y.frozen? ⟨x.heap.size, 7, none⟩ = false from fun y hy => ⟨Nat.lt_of_lt_of_le (by simp) hy.size, hy.cell (by go_simp) (fun e => hne (by injection e)), (hy.frozen_far ⟨x.heap.size, 0, none⟩ (by simp) (fun e => hne (by injection e))).trans (by go_simp), hy.cell (by go_simp) (fun e => hne (by injection e)), (hy.frozen_far ⟨x.heap.size, 1, none⟩ (by simp) (fun e => hne (by injection e))).trans (by go_simp), hy.cell (by go_simp) (fun e => hne (by injection e)), (hy.frozen_far ⟨x.heap.size, 2, none⟩ (by simp) (fun e => hne (by injection e))).trans (by go_simp), hy.cell (by go_simp) (fun e => hne (by injection e)), (hy.frozen_far ⟨x.heap.size, 3, none⟩ (by simp) (fun e => hne (by injection e))).trans (by go_simp), hy.cell (by go_simp) (fun e => hne (by injection e)), (hy.frozen_far ⟨x.heap.size, 4, none⟩ (by simp) (fun e => hne (by injection e))).trans (by go_simp), hy.cell (by go_simp) (fun e => hne (by injection e)), (hy.frozen_far ⟨x.heap.size, 5, none⟩ (by simp) (fun e => hne (by injection e))).trans (by go_simp), hy.cell (by go_simp) (fun e => hne (by injection e)), (hy.frozen_far ⟨x.heap.size, 6, none⟩ (by simp) (fun e => hne (by injection e))).trans (by go_simp), hy.cell (by go_simp) (fun e => hne (by injection e)), (hy.frozen_far ⟨x.heap.size, 7, none⟩ (by simp) (fun e => hne (by injection e))).trans (by go_simp)⟩)
        clear hne
        go_upto_region 9 with fail
        go_cut [9] (fun s9 wx => ∃ p : Nat, s9 = .pointer (some ⟨p, 0, none⟩) ∧ x.heap.size ≤ p ∧ V8 wx p 0 n0 a b c0 d e f ∧ RS wx r B L t' ∧ x.grownBy wx (some r))
        case first =>
          go_region_held3 (fun w' => w'.cell? ⟨g, o + j * 2, none⟩ = some (.int .u8 (kd : Int)) ∧ w'.cell? ⟨g, o + j * 2 + 1, none⟩ = some (.int .i64 l)) (first | with_reducible assumption | (with_reducible exact HKC.out _ HQ.out.2.2.2) | (with_reducible exact HKC.out _ (g_drew HQ.out.2.2.2)) | (with_reducible exact HKC.out _ (g_drew (g_alloc HQ.out.2.2.2 _))) | (with_reducible exact HKC.out _ (g_alloc HQ.out.2.2.2 _)) | (with_reducible exact HKC.out _ hb1) | (with_reducible exact HKC.out _ (g_alloc hb1 _)) | (with_reducible exact HKC.out _ (hi_set (hi_set (hi_set (hi_set (hi_set (hi_set (hi_set (hi_set hb1 HQ.out.2.2.2.size) HQ.out.2.2.2.size) HQ.out.2.2.2.size) HQ.out.2.2.2.size) HQ.out.2.2.2.size) HQ.out.2.2.2.size) HQ.out.2.2.2.size) HQ.out.2.2.2.size)) | (with_reducible refine HKC.out _ ?_; (repeat (first | with_reducible assumption | with_reducible exact HQ.out.2.2.2 | with_reducible refine g_drew ?_ | with_reducible refine g_alloc ?_ _ | with_reducible refine hi_set ?_ (by assumption)))))
            (first | (go_at_call 15; have hq1 : RS x.drew r B L t := HQ.out.1.below (g_drew g_refl); have hq0 := get_v r B L t kd l HJ.out.2.2.2 n0 a b c0 d e f t' HX.out x.drew hq1; (with_reducible refine Calls.mono hq0 ?_); rintro y1 x1 ⟨rfl, hR1, hg1⟩; have hb1 : Below W.heap.size W x1 := gb_to_below (g_drew HQ.out.2.2.2) hg1 HS.out.2.2.2.1; skip) | (go_at_call 15; have hq1 : RS (x.alloc (.cells #[.int .u8 0, .int .u64 0, .string ⟨#[]⟩, .string ⟨#[]⟩, .string ⟨#[]⟩, .string ⟨#[]⟩, .string ⟨#[]⟩, .string ⟨#[]⟩] 31)).drew r B L t := HQ.out.1.below (g_drew (g_alloc g_refl _)); have hq0 := get_v r B L t kd l HJ.out.2.2.2 n0 a b c0 d e f t' HX.out (x.alloc (.cells #[.int .u8 0, .int .u64 0, .string ⟨#[]⟩, .string ⟨#[]⟩, .string ⟨#[]⟩, .string ⟨#[]⟩, .string ⟨#[]⟩, .string ⟨#[]⟩] 31)).drew hq1; (with_reducible refine Calls.mono hq0 ?_); rintro y1 x1 ⟨rfl, hR1, hg1⟩; have hb1 : Below W.heap.size W x1 := gb_to_below (g_drew (g_alloc HQ.out.2.2.2 _)) hg1 HS.out.2.2.2.1; obtain ⟨hs1, k0, f0, k1, f1, k2, f2, k3, f3, k4, f4, k5, f5, k6, f6, k7, f7⟩ := HZK.out x1 hg1; skip))
          all_goals
            go_wp2_with fail
            go_meet
          · exact ⟨_, rfl, hg1.size, ⟨by simp, ⟨by go_simp, by go_simp, by go_simp, by go_simp, by go_simp, by go_simp, by go_simp, by go_simp⟩, by go_simp⟩, fin_agg HQ.out.1 (g_drew g_refl) hg1 hR1 hg1.size (gbs_alloc (World.grownBy.refl _ _))⟩
          · exact ⟨_, rfl, Nat.le_refl _, ⟨by simpa using hs1, ⟨by go_simp, by go_simp, by go_simp, by go_simp, by go_simp, by go_simp, by go_simp, by go_simp⟩, by go_simp⟩, fin_agg HQ.out.1 (g_drew (g_alloc g_refl _)) hg1 hR1 (Nat.le_refl _) (by repeat (first | with_reducible exact World.grownBy.refl _ _ | with_reducible refine gbs_set ?_))⟩
        case rest =>
          obtain ⟨p, rfl, hp, hV, hR1, hg1⟩ := hcut
          have HOW := hid (show ∀ k, v.ownBlock = some k → q ≤ k ∧ k < x.heap.size from fun k hk => World.ownsRow.lt HQ.out.2.2.1.own k hk)
          have HXS := hid (And.intro HQ.out.2.2.1.lt (And.intro hp HQ.out.1.lt))
          have HW1 := hid (HQ.out.2.2.1.other hg1 (by have := HS.out.2.2.1; omega) (fun h => by have h1 := (HOW.out r h).1; have := HS.out.2.2.1; omega))
          have HB1 := hid (gb_to_below HQ.out.2.2.2 hg1 HS.out.2.2.2.1)
          obtain ⟨hpl, ⟨k0, k1, k2, k3, k4, k5, k6, k7⟩, f0⟩ := hV
          have HR1 := hid hR1
          have HPL := hid hpl
          clear hS hp hR1 hg1 HZK hpl
          by_cases hf : t'.fe = 0
          · have hfb : decide (t'.fe ≠ 0) = false := by simp [hf]
            have HF := hid hf
            obtain ⟨hc0, -⟩ := HKC.out wc HB1.out
            clear hf
            have HPQ := hid (show p ≠ q ∧ p ≠ r ∧ v.ownBlock ≠ some p ∧ (∀ a, L ≠ [] → B = some a → a.block ≠ p) ∧ W.heap.size ≤ p ∧ W.heap.size ≤ q ∧ (∀ a, L ≠ [] → B = some a → a.block < q) from by
              have h1 := HXS.out
              have h2 := HS.out.2.2.1
              have h3 := HS.out.2.2.2.2.2.2
              have h4 := HS.out.2.2.2.1
              refine ⟨by omega, by omega, fun h => by have := (HOW.out p h).2; omega, fun a hne ha => by have := h3 a hne ha; omega, by have := HQ.out.2.2.2.size; omega, by omega, h3⟩)
            have hgp : ¬ g = p := by have h1 := HJ.out.2.1; have h2 := HXS.out.2.1; have h3 := HQ.out.2.2.2.size; omega
            have hpg : ¬ p = g := fun h => hgp h.symm
            have HNR := hid (show g ≠ p by have h1 := HJ.out.2.1; have h2 := HXS.out.2.1; have h3 := HQ.out.2.2.2.size; omega)
            go_wp2_with fail
            refine (failed_v (b := false) HR1.out hfb).mono ?_
            rintro _ y ⟨rfl, rfl⟩
            clear hfb
            by_cases h12 : kd % 13 = 12
            · have HSG : Hid (Seg L t t' (vform 0 n0 a b c0 d e f)) := hid (by have h := HO.out.2.2.1 HF.out; rwa [if_pos h12] at h)
              have hz : (kd : Int) % 13 = 12 := by omega
              clear h12
              go_wp2_with fail
              refine (put_step (W := W) 0 n0 a b c0 d e f HO.out.2.2.2.1 HO.out.2.2.2.2 (by have := HL.out; have := HN.out.1; omega) HSG.out HW1.out HR1.out HB1.out (by repeat (first | with_reducible exact World.grownBy.refl _ _ | with_reducible refine gbs_set ?_)) HPQ.out.1 HPQ.out.2.1 HPQ.out.2.2.1 HPQ.out.2.2.2.1 HPQ.out.2.2.2.2.1 HPQ.out.2.2.2.2.2.1 HS.out.2.2.1 HPQ.out.2.2.2.2.2.2).mono ?_
              rintro _ y ⟨rfl, v', hws, hR2, hB2⟩
              have HX2 := hid (And.intro hws (And.intro hR2 hB2))
              clear hws hR2 hB2 HW1 HR1 HB1
              have hkn : t'.at_ ≤ n := by have h1 := HO.out.1.1; have h2 := HL.out; omega
              have HC1 := hid (fun (w' : World) (hw : Below W.heap.size W w') => conv_k (A := A) c t'.at_ HI.out.1.1 HO.out.1.1 hw)
              have HT := hid (show (L.take t'.at_).length = t'.at_ by rw [List.length_take]; have h1 := HO.out.1.1; omega)
              have HR2 := hid HX2.out.2.1
              have HB2 := hid HX2.out.2.2
              have HW2 := hid HX2.out.1
              have hmin : min (t'.at_ : Int) (n : Int) = (t'.at_ : Int) := by omega
              have hkc : t'.at_ ≤ c := by have h1 := HI.out.2.1; omega
              have hki : (0 : Int) ≤ (t'.at_ : Int) := by omega
              have hki2 : (t'.at_ : Int) ≤ (n : Int) := by omega
              have hki3 : (t'.at_ : Int) ≤ (c : Int) := by omega
              have hT : (L.take t'.at_).length ≤ 1000000 := by rw [HT.out]; have := HN.out.1; omega
              have HTL := hid hT
              have HAT : Hid (t'.at_ = t'.at_) := hid rfl
              generalize hkk : t'.at_ = k at *
              have HKK := hid hkk
              have hS : y.cell? ⟨r, 1, none⟩ = some (.int .i64 (k : Int)) := by rw [← hkk]; exact HR2.out.c1
              generalize hmm : L.take k = M at *
              have HMM := hid hmm
              clear hkk hmm hT HX2
              go_upto_region 16 with fail
              go_cut [73] (fun s wx => s = .bool false ∧ Below y.heap.size y wx)
              case first =>
                have hcy := fun i => HC1.out (y.drewN i) (g_trans HB2.out (g_drewN g_refl i))
                have hcy0 := HC1.out y HB2.out
                go_region_with
                  (first | (go_at_call 12; (with_reducible refine Calls.mono (wbytes_any q q v' M _ (HW2.out.below (by first | with_reducible exact g_refl | with_reducible exact g_drew g_refl)) HTL.out) ?_); rintro x7 w7 ⟨B7, rfl, hB7, -, hw7⟩; have hb7 : Below y.heap.size y w7 := g_trans (g_drew g_refl) hw7; have hcv7 := conv_all w7 B7 M.length M hB7; skip) | (go_at_call 18; (with_reducible refine Calls.mono (at_v (n := k) (HR2.out.below hb7) HKK.out) ?_); rintro _ w8 ⟨rfl, rfl⟩; have hcz := HC1.out _ (g_trans HB2.out hb7); skip) | (go_at_call 18; (with_reducible refine Calls.mono (at_v (n := k) (HR2.out.below (g_drew g_refl)) HKK.out) ?_); rintro _ w8 ⟨rfl, rfl⟩; have hcz := HC1.out _ (g_trans HB2.out (g_drew g_refl)); skip))
                all_goals
                  go_wp2_with fail
                  go_meet
                  exact ⟨rfl, hb7⟩
              case rest =>
                obtain ⟨rfl, hb⟩ := hcut
                have HR3 := hid (HR2.out.below hb)
                have HW3 := hid (HW2.out.below hb)
                have HB3 := hid (g_trans HB2.out hb)
                clear hb hS HR2 HW2 HB2 HC1 hmin hkn hkc hki hki2 hki3 k0 k1 k2 k3 k4 k5 k6 k7 f0
                go_wp2
                go_roundg (20 - (j + 1))
                case measure => have := HK.out; have := HJ.out.1; have := HN.out.2; omega
                case rel => exact ⟨j + 1, t', v', rfl, HJ.out.1, congrArg (Value.int .i64) (show wrap64 ((j : Int) + 1) = ((j + 1 : Nat) : Int) by have h1 := HJ.out.1; have h2 := HN.out.2; unfold wrap64; omega), HR3.out, HF.out, by rw [HKK.out, HMM.out]; exact HW3.out, HB3.out⟩
            · have HSG : Hid (Seg L t t' (vform (kd % 13) n0 a b c0 d e f)) := hid (by have h := HO.out.2.2.1 HF.out; rwa [if_neg h12] at h)
              have hz : (kd : Int) % 13 = ((kd % 13 : Nat) : Int) := by omega
              generalize kd % 13 = z at *
              have hz2 : ¬ (z : Int) = 12 := by omega
              clear h12
              go_wp2_with fail
              refine (put_step (W := W) z n0 a b c0 d e f HO.out.2.2.2.1 HO.out.2.2.2.2 (by have := HL.out; have := HN.out.1; omega) HSG.out HW1.out HR1.out HB1.out (by repeat (first | with_reducible exact World.grownBy.refl _ _ | with_reducible refine gbs_set ?_)) HPQ.out.1 HPQ.out.2.1 HPQ.out.2.2.1 HPQ.out.2.2.2.1 HPQ.out.2.2.2.2.1 HPQ.out.2.2.2.2.2.1 HS.out.2.2.1 HPQ.out.2.2.2.2.2.2).mono ?_
              rintro _ y ⟨rfl, v', hws, hR2, hB2⟩
              have HX2 := hid (And.intro hws (And.intro hR2 hB2))
              clear hws hR2 hB2 HW1 HR1 HB1
              have hkn : t'.at_ ≤ n := by have h1 := HO.out.1.1; have h2 := HL.out; omega
              have HC1 := hid (fun (w' : World) (hw : Below W.heap.size W w') => conv_k (A := A) c t'.at_ HI.out.1.1 HO.out.1.1 hw)
              have HT := hid (show (L.take t'.at_).length = t'.at_ by rw [List.length_take]; have h1 := HO.out.1.1; omega)
              have HR2 := hid HX2.out.2.1
              have HB2 := hid HX2.out.2.2
              have HW2 := hid HX2.out.1
              have hmin : min (t'.at_ : Int) (n : Int) = (t'.at_ : Int) := by omega
              have hkc : t'.at_ ≤ c := by have h1 := HI.out.2.1; omega
              have hki : (0 : Int) ≤ (t'.at_ : Int) := by omega
              have hki2 : (t'.at_ : Int) ≤ (n : Int) := by omega
              have hki3 : (t'.at_ : Int) ≤ (c : Int) := by omega
              have hT : (L.take t'.at_).length ≤ 1000000 := by rw [HT.out]; have := HN.out.1; omega
              have HTL := hid hT
              have HAT : Hid (t'.at_ = t'.at_) := hid rfl
              generalize hkk : t'.at_ = k at *
              have HKK := hid hkk
              have hS : y.cell? ⟨r, 1, none⟩ = some (.int .i64 (k : Int)) := by rw [← hkk]; exact HR2.out.c1
              generalize hmm : L.take k = M at *
              have HMM := hid hmm
              clear hkk hmm hT HX2
              go_upto_region 16 with fail
              go_cut [73] (fun s wx => s = .bool false ∧ Below y.heap.size y wx)
              case first =>
                have hcy := fun i => HC1.out (y.drewN i) (g_trans HB2.out (g_drewN g_refl i))
                have hcy0 := HC1.out y HB2.out
                go_region_with
                  (first | (go_at_call 12; (with_reducible refine Calls.mono (wbytes_any q q v' M _ (HW2.out.below (by first | with_reducible exact g_refl | with_reducible exact g_drew g_refl)) HTL.out) ?_); rintro x7 w7 ⟨B7, rfl, hB7, -, hw7⟩; have hb7 : Below y.heap.size y w7 := g_trans (g_drew g_refl) hw7; have hcv7 := conv_all w7 B7 M.length M hB7; skip) | (go_at_call 18; (with_reducible refine Calls.mono (at_v (n := k) (HR2.out.below hb7) HKK.out) ?_); rintro _ w8 ⟨rfl, rfl⟩; have hcz := HC1.out _ (g_trans HB2.out hb7); skip) | (go_at_call 18; (with_reducible refine Calls.mono (at_v (n := k) (HR2.out.below (g_drew g_refl)) HKK.out) ?_); rintro _ w8 ⟨rfl, rfl⟩; have hcz := HC1.out _ (g_trans HB2.out (g_drew g_refl)); skip))
                all_goals
                  go_wp2_with fail
                  go_meet
                  exact ⟨rfl, hb7⟩
              case rest =>
                obtain ⟨rfl, hb⟩ := hcut
                have HR3 := hid (HR2.out.below hb)
                have HW3 := hid (HW2.out.below hb)
                have HB3 := hid (g_trans HB2.out hb)
                clear hb hS HR2 HW2 HB2 HC1 hmin hkn hkc hki hki2 hki3 k0 k1 k2 k3 k4 k5 k6 k7 f0
                go_wp2
                go_roundg (20 - (j + 1))
                case measure => have := HK.out; have := HJ.out.1; have := HN.out.2; omega
                case rel => exact ⟨j + 1, t', v', rfl, HJ.out.1, congrArg (Value.int .i64) (show wrap64 ((j : Int) + 1) = ((j + 1 : Nat) : Int) by have h1 := HJ.out.1; have h2 := HN.out.2; unfold wrap64; omega), HR3.out, HF.out, by rw [HKK.out, HMM.out]; exact HW3.out, HB3.out⟩
          · have hfb : decide (t'.fe ≠ 0) = true := by simp [hf]
            have hat := HO.out.2.1 hf
            clear hf k0 k1 k2 k3 k4 k5 k6 k7 f0
            go_wp2_with fail
            refine (failed_v (b := true) HR1.out hfb).mono ?_
            rintro _ y ⟨rfl, rfl⟩
            clear hfb
            go_wp2_with fail
            refine (at_v HR1.out hat).mono ?_
            rintro _ y ⟨rfl, rfl⟩
            clear hat
            go_wp2_with fail
            refine (lives_any y).mono ?_
            rintro _ w5 ⟨rfl, hb5⟩
            have HB5 := hid (g_trans HB1.out hb5)
            clear hb5
            go_wp2
            go_ret
            exact ⟨rfl, HB5.out⟩
      · have hlt2 : ¬ (j : Int) < (m : Int) := by omega
        clear hlt hj
        go_wp2_with fail
        refine (lives_any wr).mono ?_
        rintro _ w5 ⟨rfl, hb5⟩
        have HB5 := hid (g_trans HQ.out.2.2.2 hb5)
        clear hb5
        go_wp2
        go_ret
        exact ⟨rfl, HB5.out⟩
  · by_cases hb1 : L.length ≤ 300
    · have hm1 : ¬ (300 : Int) < (L.length : Int) := by omega
      have hm2 : (20 : Int) < (Ks.length : Int) := by omega
      generalize L.length = n at *
      generalize Ks.length = m at *
      clear hb1 hb
      go_enter Try.func5, Try.ntmps5
      go_wp2_with fail
      refine (lives_any W).mono ?_
      rintro _ w1 ⟨rfl, hw1⟩
      have HW := hid hw1
      clear hw1
      go_wp2
      go_ret
      exact ⟨rfl, HW.out⟩
    · have hm1 : (300 : Int) < (L.length : Int) := by omega
      generalize L.length = n at *
      generalize Ks.length = m at *
      clear hb1 hb
      go_enter Try.func5, Try.ntmps5
      go_wp2_with fail
      refine (lives_any W).mono ?_
      rintro _ w1 ⟨rfl, hw1⟩
      have HW := hid hw1
      clear hw1
      go_wp2
      go_ret
      exact ⟨rfl, HW.out⟩
end Go.Proofs.Ytohnhjmiblgkkaa
