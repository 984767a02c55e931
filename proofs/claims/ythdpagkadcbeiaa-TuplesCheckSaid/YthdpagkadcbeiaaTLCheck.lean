/-
  TuplesCheck returns true: the walk.
-/
import Derived.Test.YthdpagkadcbeiaaTFact
import Derived.Test.YthdpagkadcbeiaaTLives
import Derived.Test.YthdpagkadcbeiaaMOrd
namespace Go.Proofs.Ythdpagkadcbeiaa
open Go.RowKit Go.Sort

theorem cmpT_range (x y : Tup) : cmpT x y = -1 ∨ cmpT x y = 0 ∨ cmpT x y = 1 := by
  have h1 := cmpG_range x.a x.b x.c y.a y.b y.c
  have h2 := cmpG_range x.d x.e x.f y.d y.e y.f
  unfold cmpT; split <;> omega
theorem tt_keep {p q : Nat} {t u : Tup} {W W' : World} (hb : Below W.heap.size W W') (h : W.cell? ⟨p, 0, none⟩ = some (.string t.a) ∧ W.cell? ⟨p, 1, none⟩ = some (.string t.b) ∧ W.cell? ⟨p, 2, none⟩ = some (.string t.c) ∧ W.cell? ⟨p, 3, none⟩ = some (.string t.d) ∧ W.cell? ⟨p, 4, none⟩ = some (.string t.e) ∧ W.cell? ⟨p, 5, none⟩ = some (.string t.f) ∧ W.cell? ⟨q, 0, none⟩ = some (.string u.a) ∧ W.cell? ⟨q, 1, none⟩ = some (.string u.b) ∧ W.cell? ⟨q, 2, none⟩ = some (.string u.c) ∧ W.cell? ⟨q, 3, none⟩ = some (.string u.d) ∧ W.cell? ⟨q, 4, none⟩ = some (.string u.e) ∧ W.cell? ⟨q, 5, none⟩ = some (.string u.f) ∧ p < W.heap.size ∧ q < W.heap.size) : W'.cell? ⟨p, 0, none⟩ = some (.string t.a) ∧ W'.cell? ⟨p, 1, none⟩ = some (.string t.b) ∧ W'.cell? ⟨p, 2, none⟩ = some (.string t.c) ∧ W'.cell? ⟨p, 3, none⟩ = some (.string t.d) ∧ W'.cell? ⟨p, 4, none⟩ = some (.string t.e) ∧ W'.cell? ⟨p, 5, none⟩ = some (.string t.f) ∧ W'.cell? ⟨q, 0, none⟩ = some (.string u.a) ∧ W'.cell? ⟨q, 1, none⟩ = some (.string u.b) ∧ W'.cell? ⟨q, 2, none⟩ = some (.string u.c) ∧ W'.cell? ⟨q, 3, none⟩ = some (.string u.d) ∧ W'.cell? ⟨q, 4, none⟩ = some (.string u.e) ∧ W'.cell? ⟨q, 5, none⟩ = some (.string u.f) ∧ p < W'.heap.size ∧ q < W'.heap.size := by
  obtain ⟨h0, h1, h2, h3, h4, h5, h6, h7, h8, h9, h10, h11, h12, h13⟩ := h
  exact ⟨(own_cells hb _ h12 _).1.trans h0, (own_cells hb _ h12 _).1.trans h1, (own_cells hb _ h12 _).1.trans h2, (own_cells hb _ h12 _).1.trans h3, (own_cells hb _ h12 _).1.trans h4, (own_cells hb _ h12 _).1.trans h5, (own_cells hb _ h13 _).1.trans h6, (own_cells hb _ h13 _).1.trans h7, (own_cells hb _ h13 _).1.trans h8, (own_cells hb _ h13 _).1.trans h9, (own_cells hb _ h13 _).1.trans h10, (own_cells hb _ h13 _).1.trans h11, Nat.lt_of_lt_of_le h12 hb.size, Nat.lt_of_lt_of_le h13 hb.size⟩
theorem tcheck_e (x : Tup) (k : Int) (w : World) (hx : Fits x) (h : err (okT x) = k) :
    Calls Try.prog 12 #[.agg #[.string x.a, .string x.b, .string x.c, .string x.d, .string x.e, .string x.f]] w fun e w' => e = .returned (.int .i64 k) ∧ Below w.heap.size w w' := by subst h; exact tcheck x w hx
theorem rtcheck_e (x : Tup) (k : Int) (w : World) (hx : Fits x) (h : err (okT x) = k) :
    Calls Try.prog 14 #[.agg #[.string x.a, .string x.b, .string x.c, .string x.d, .string x.e, .string x.f]] w fun e w' => e = .returned (.int .i64 k) ∧ Below w.heap.size w w' := by subst h; exact rtcheck x w hx
theorem ttext_e (x : Tup) (s : ByteArray) (w : World) (hx : Small x) (h : txtT x = s) :
    Calls Try.prog 13 #[.agg #[.string x.a, .string x.b, .string x.c, .string x.d, .string x.e, .string x.f]] w fun e w' => e = .returned (.string s) ∧ Below w.heap.size w w' := by subst h; exact ttext x w hx
theorem rttext_e (x : Tup) (s : ByteArray) (w : World) (hx : Small x) (h : txtT x = s) :
    Calls Try.prog 15 #[.agg #[.string x.a, .string x.b, .string x.c, .string x.d, .string x.e, .string x.f]] w fun e w' => e = .returned (.string s) ∧ Below w.heap.size w w' := by subst h; exact rttext x w hx
theorem tcmp_e (x y : Tup) (v : Int) (w : World) (h : cmpT x y = v) :
    Calls Try.prog 16 #[.agg #[.string x.a, .string x.b, .string x.c, .string x.d, .string x.e, .string x.f], .agg #[.string y.a, .string y.b, .string y.c, .string y.d, .string y.e, .string y.f]] w fun e w' => e = .returned (.int .i64 v) ∧ Below w.heap.size w w' := by
  subst h; exact (tcmp x y w).mono fun _ _ h => ⟨h.1, h.2.toBelow⟩
theorem rtcmp_e (x y : Tup) (v : Int) (w : World) (hx : Fits x) (hy : Fits y) (h : cmpT x y = v) :
    Calls Try.prog 17 #[.agg #[.string x.a, .string x.b, .string x.c, .string x.d, .string x.e, .string x.f], .agg #[.string y.a, .string y.b, .string y.c, .string y.d, .string y.e, .string y.f]] w fun e w' => e = .returned (.int .i64 v) ∧ Below w.heap.size w w' := by
  subst h; exact (rtcmp x y w hx hy).mono fun _ _ h => ⟨h.1, h.2.toBelow⟩
theorem txtT_size {x : Tup} (h : Small x) : (txtT x).size ≤ 300 := by
  obtain ⟨z1, z2, z3, z4, z5, z6⟩ := h
  have m1 := gtxt_size z1 z2 z3
  have m2 := stxt_size z4 z5 z6
  unfold txtT
  rw [ByteArray.size_append, ByteArray.size_append]
  have : (ByteArray.mk #[64]).size = 1 := rfl
  omega

set_option maxRecDepth 100000 in
set_option maxHeartbeats 16000000 in
theorem check_walk (t u : Tup) (w : World) (ht : Fits t) (hu : Fits u) :
    Calls Try.prog 4 #[.agg #[.string t.a, .string t.b, .string t.c, .string t.d, .string t.e, .string t.f], .agg #[.string u.a, .string u.b, .string u.c, .string u.d, .string u.e, .string u.f]] w fun e w' => e = .returned (.bool true) ∧ Below w.heap.size w w' := by
  have hmx := mixed
  go_enter Try.func4, Try.ntmps4
  go_wp2
  have hS : (((w.alloc (.cells #[.string t.a, .string t.b, .string t.c, .string t.d, .string t.e, .string t.f] 29)).alloc (.cells #[.string u.a, .string u.b, .string u.c, .string u.d, .string u.e, .string u.f] 29)).alloc (.cells #[.string t.a, .string t.b, .string t.c, .string t.d, .string t.e, .string t.f, .string u.a, .string u.b, .string u.c, .string u.d, .string u.e, .string u.f] 9)).cell? ⟨w.heap.size, 0, none⟩ = some (.string t.a) ∧ (((w.alloc (.cells #[.string t.a, .string t.b, .string t.c, .string t.d, .string t.e, .string t.f] 29)).alloc (.cells #[.string u.a, .string u.b, .string u.c, .string u.d, .string u.e, .string u.f] 29)).alloc (.cells #[.string t.a, .string t.b, .string t.c, .string t.d, .string t.e, .string t.f, .string u.a, .string u.b, .string u.c, .string u.d, .string u.e, .string u.f] 9)).cell? ⟨w.heap.size, 1, none⟩ = some (.string t.b) ∧ (((w.alloc (.cells #[.string t.a, .string t.b, .string t.c, .string t.d, .string t.e, .string t.f] 29)).alloc (.cells #[.string u.a, .string u.b, .string u.c, .string u.d, .string u.e, .string u.f] 29)).alloc (.cells #[.string t.a, .string t.b, .string t.c, .string t.d, .string t.e, .string t.f, .string u.a, .string u.b, .string u.c, .string u.d, .string u.e, .string u.f] 9)).cell? ⟨w.heap.size, 2, none⟩ = some (.string t.c) ∧ (((w.alloc (.cells #[.string t.a, .string t.b, .string t.c, .string t.d, .string t.e, .string t.f] 29)).alloc (.cells #[.string u.a, .string u.b, .string u.c, .string u.d, .string u.e, .string u.f] 29)).alloc (.cells #[.string t.a, .string t.b, .string t.c, .string t.d, .string t.e, .string t.f, .string u.a, .string u.b, .string u.c, .string u.d, .string u.e, .string u.f] 9)).cell? ⟨w.heap.size, 3, none⟩ = some (.string t.d) ∧ (((w.alloc (.cells #[.string t.a, .string t.b, .string t.c, .string t.d, .string t.e, .string t.f] 29)).alloc (.cells #[.string u.a, .string u.b, .string u.c, .string u.d, .string u.e, .string u.f] 29)).alloc (.cells #[.string t.a, .string t.b, .string t.c, .string t.d, .string t.e, .string t.f, .string u.a, .string u.b, .string u.c, .string u.d, .string u.e, .string u.f] 9)).cell? ⟨w.heap.size, 4, none⟩ = some (.string t.e) ∧ (((w.alloc (.cells #[.string t.a, .string t.b, .string t.c, .string t.d, .string t.e, .string t.f] 29)).alloc (.cells #[.string u.a, .string u.b, .string u.c, .string u.d, .string u.e, .string u.f] 29)).alloc (.cells #[.string t.a, .string t.b, .string t.c, .string t.d, .string t.e, .string t.f, .string u.a, .string u.b, .string u.c, .string u.d, .string u.e, .string u.f] 9)).cell? ⟨w.heap.size, 5, none⟩ = some (.string t.f) ∧ (((w.alloc (.cells #[.string t.a, .string t.b, .string t.c, .string t.d, .string t.e, .string t.f] 29)).alloc (.cells #[.string u.a, .string u.b, .string u.c, .string u.d, .string u.e, .string u.f] 29)).alloc (.cells #[.string t.a, .string t.b, .string t.c, .string t.d, .string t.e, .string t.f, .string u.a, .string u.b, .string u.c, .string u.d, .string u.e, .string u.f] 9)).cell? ⟨(w.heap.size + 1), 0, none⟩ = some (.string u.a) ∧ (((w.alloc (.cells #[.string t.a, .string t.b, .string t.c, .string t.d, .string t.e, .string t.f] 29)).alloc (.cells #[.string u.a, .string u.b, .string u.c, .string u.d, .string u.e, .string u.f] 29)).alloc (.cells #[.string t.a, .string t.b, .string t.c, .string t.d, .string t.e, .string t.f, .string u.a, .string u.b, .string u.c, .string u.d, .string u.e, .string u.f] 9)).cell? ⟨(w.heap.size + 1), 1, none⟩ = some (.string u.b) ∧ (((w.alloc (.cells #[.string t.a, .string t.b, .string t.c, .string t.d, .string t.e, .string t.f] 29)).alloc (.cells #[.string u.a, .string u.b, .string u.c, .string u.d, .string u.e, .string u.f] 29)).alloc (.cells #[.string t.a, .string t.b, .string t.c, .string t.d, .string t.e, .string t.f, .string u.a, .string u.b, .string u.c, .string u.d, .string u.e, .string u.f] 9)).cell? ⟨(w.heap.size + 1), 2, none⟩ = some (.string u.c) ∧ (((w.alloc (.cells #[.string t.a, .string t.b, .string t.c, .string t.d, .string t.e, .string t.f] 29)).alloc (.cells #[.string u.a, .string u.b, .string u.c, .string u.d, .string u.e, .string u.f] 29)).alloc (.cells #[.string t.a, .string t.b, .string t.c, .string t.d, .string t.e, .string t.f, .string u.a, .string u.b, .string u.c, .string u.d, .string u.e, .string u.f] 9)).cell? ⟨(w.heap.size + 1), 3, none⟩ = some (.string u.d) ∧ (((w.alloc (.cells #[.string t.a, .string t.b, .string t.c, .string t.d, .string t.e, .string t.f] 29)).alloc (.cells #[.string u.a, .string u.b, .string u.c, .string u.d, .string u.e, .string u.f] 29)).alloc (.cells #[.string t.a, .string t.b, .string t.c, .string t.d, .string t.e, .string t.f, .string u.a, .string u.b, .string u.c, .string u.d, .string u.e, .string u.f] 9)).cell? ⟨(w.heap.size + 1), 4, none⟩ = some (.string u.e) ∧ (((w.alloc (.cells #[.string t.a, .string t.b, .string t.c, .string t.d, .string t.e, .string t.f] 29)).alloc (.cells #[.string u.a, .string u.b, .string u.c, .string u.d, .string u.e, .string u.f] 29)).alloc (.cells #[.string t.a, .string t.b, .string t.c, .string t.d, .string t.e, .string t.f, .string u.a, .string u.b, .string u.c, .string u.d, .string u.e, .string u.f] 9)).cell? ⟨(w.heap.size + 1), 5, none⟩ = some (.string u.f) ∧ w.heap.size < (((w.alloc (.cells #[.string t.a, .string t.b, .string t.c, .string t.d, .string t.e, .string t.f] 29)).alloc (.cells #[.string u.a, .string u.b, .string u.c, .string u.d, .string u.e, .string u.f] 29)).alloc (.cells #[.string t.a, .string t.b, .string t.c, .string t.d, .string t.e, .string t.f, .string u.a, .string u.b, .string u.c, .string u.d, .string u.e, .string u.f] 9)).heap.size ∧ (w.heap.size + 1) < (((w.alloc (.cells #[.string t.a, .string t.b, .string t.c, .string t.d, .string t.e, .string t.f] 29)).alloc (.cells #[.string u.a, .string u.b, .string u.c, .string u.d, .string u.e, .string u.f] 29)).alloc (.cells #[.string t.a, .string t.b, .string t.c, .string t.d, .string t.e, .string t.f, .string u.a, .string u.b, .string u.c, .string u.d, .string u.e, .string u.f] 9)).heap.size := ⟨by go_simp, by go_simp, by go_simp, by go_simp, by go_simp, by go_simp, by go_simp, by go_simp, by go_simp, by go_simp, by go_simp, by go_simp, by simp; omega, by simp⟩
  obtain ⟨ss, hss⟩ : ∃ ss : List ByteArray, ss = [t.a, t.b, t.c, t.d, t.e, t.f, u.a, u.b, u.c, u.d, u.e, u.f] := ⟨_, rfl⟩
  have hl : ss.length = 12 := by rw [hss]; rfl
  have HC : Hid (∀ k, (h : k < ss.length) → (((w.alloc (.cells #[.string t.a, .string t.b, .string t.c, .string t.d, .string t.e, .string t.f] 29)).alloc (.cells #[.string u.a, .string u.b, .string u.c, .string u.d, .string u.e, .string u.f] 29)).alloc (.cells #[.string t.a, .string t.b, .string t.c, .string t.d, .string t.e, .string t.f, .string u.a, .string u.b, .string u.c, .string u.d, .string u.e, .string u.f] 9)).cell? ⟨w.heap.size + 1 + 1, k, none⟩ = some (.string ss[k])) := by
    subst hss
    intro k hk
    match k, hk with
    | 0, _ => go_simp
    | 1, _ => go_simp
    | 2, _ => go_simp
    | 3, _ => go_simp
    | 4, _ => go_simp
    | 5, _ => go_simp
    | 6, _ => go_simp
    | 7, _ => go_simp
    | 8, _ => go_simp
    | 9, _ => go_simp
    | 10, _ => go_simp
    | 11, _ => go_simp
  have HM : Hid (∀ k, (h : k < ss.length) → ss[k].size ≤ maxLen) := by
    subst hss
    obtain ⟨z1, z2, z3, z4, z5, z6⟩ := ht
    obtain ⟨y1, y2, y3, y4, y5, y6⟩ := hu
    intro k hk
    match k, hk with
    | 0, _ => exact z1
    | 1, _ => exact z2
    | 2, _ => exact z3
    | 3, _ => exact z4
    | 4, _ => exact z5
    | 5, _ => exact z6
    | 6, _ => exact y1
    | 7, _ => exact y2
    | 8, _ => exact y3
    | 9, _ => exact y4
    | 10, _ => exact y5
    | 11, _ => exact y6
  have hB : Below w.heap.size w (((w.alloc (.cells #[.string t.a, .string t.b, .string t.c, .string t.d, .string t.e, .string t.f] 29)).alloc (.cells #[.string u.a, .string u.b, .string u.c, .string u.d, .string u.e, .string u.f] 29)).alloc (.cells #[.string t.a, .string t.b, .string t.c, .string t.d, .string t.e, .string t.f, .string u.a, .string u.b, .string u.c, .string u.d, .string u.e, .string u.f] 9)) := g_alloc (g_alloc (g_alloc g_refl _) _) _
  have HE := hid hss
  clear hss
  generalize (((w.alloc (.cells #[.string t.a, .string t.b, .string t.c, .string t.d, .string t.e, .string t.f] 29)).alloc (.cells #[.string u.a, .string u.b, .string u.c, .string u.d, .string u.e, .string u.f] 29)).alloc (.cells #[.string t.a, .string t.b, .string t.c, .string t.d, .string t.e, .string t.f, .string u.a, .string u.b, .string u.c, .string u.d, .string u.e, .string u.f] 9)) = W3 at *
  have HS := hid hS
  clear hS
  go_loop [6] (fun i => ∃ k : Nat, k ≤ 12 ∧ i = .int .i64 k ∧ ∀ j, (h : j < ss.length) → j < k → ss[j].size ≤ 40) (fun i => 12 - (intOf i).toNat)
  case atStart => exact ⟨0, Nat.zero_le _, rfl, fun _ _ h => absurd h (Nat.not_lt_zero _)⟩
  case round =>
    obtain ⟨k, hk, rfl, ha⟩ := hrel
    have HA := hid ha; clear ha
    by_cases hlt : k < 12
    · have hcell := HC.out k (by omega)
      have hmm := HM.out k (by omega)
      unfold maxLen at hmm
      by_cases h40 : ss[k].size ≤ 40
      · go_wp2
        go_round
        case rel =>
          refine ⟨k + 1, by omega, by go_num, fun j hj hjk => ?_⟩
          by_cases e : j = k
          · subst e; exact h40
          · exact HA.out j hj (by omega)
        case measure => simp [intOf]; omega
      · go_wp2_with fail
        refine (lives_any _).mono ?_
        rintro e w' ⟨rfl, hw⟩
        go_wp2
        go_ret
        exact ⟨rfl, g_trans hB hw⟩
    · obtain rfl : k = 12 := by omega
      have hall : ∀ j, (h : j < ss.length) → ss[j].size ≤ 40 := fun j hj => HA.out j hj (by omega)
      obtain rfl := HE.out
      have ST : Hid (Small t) := hid ⟨hall 0 (by simp), hall 1 (by simp), hall 2 (by simp), hall 3 (by simp), hall 4 (by simp), hall 5 (by simp)⟩
      have FT := hid ht
      have FU := hid hu
      have SU : Hid (Small u) := hid ⟨hall 6 (by simp), hall 7 (by simp), hall 8 (by simp), hall 9 (by simp), hall 10 (by simp), hall 11 (by simp)⟩
      clear HC HM HA hall HE hl ht hu SU
      have TS := hid (txtT_size ST.out)
      obtain ⟨s, hs⟩ : ∃ s, txtT t = s := ⟨_, rfl⟩
      rw [hs] at TS
      have HT := hid hs
      clear hs
      obtain ⟨kk, hkk⟩ : ∃ kk, err (okT t) = kk := ⟨_, rfl⟩
      have HK := hid hkk
      clear hkk
      have hS := HS.out
      go_upto_region 7 with fail
      go_cut [95] (fun s wx => s = .bool false ∧ (wx.cell? ⟨w.heap.size, 0, none⟩ = some (.string t.a) ∧ wx.cell? ⟨w.heap.size, 1, none⟩ = some (.string t.b) ∧ wx.cell? ⟨w.heap.size, 2, none⟩ = some (.string t.c) ∧ wx.cell? ⟨w.heap.size, 3, none⟩ = some (.string t.d) ∧ wx.cell? ⟨w.heap.size, 4, none⟩ = some (.string t.e) ∧ wx.cell? ⟨w.heap.size, 5, none⟩ = some (.string t.f) ∧ wx.cell? ⟨(w.heap.size + 1), 0, none⟩ = some (.string u.a) ∧ wx.cell? ⟨(w.heap.size + 1), 1, none⟩ = some (.string u.b) ∧ wx.cell? ⟨(w.heap.size + 1), 2, none⟩ = some (.string u.c) ∧ wx.cell? ⟨(w.heap.size + 1), 3, none⟩ = some (.string u.d) ∧ wx.cell? ⟨(w.heap.size + 1), 4, none⟩ = some (.string u.e) ∧ wx.cell? ⟨(w.heap.size + 1), 5, none⟩ = some (.string u.f) ∧ w.heap.size < wx.heap.size ∧ (w.heap.size + 1) < wx.heap.size) ∧ Below w.heap.size w wx)
      case first =>
        rcases cmpT_range t u with hv | hv | hv
        · have HV1 : Hid (cmpT t u = -1) := hid hv
          have HV2 : Hid (cmpT u t = 1) := by have := tot.anti t u; show cmpT u t = _; omega
          clear hv
          go_region_held3 (fun w' => w'.cell? ⟨w.heap.size, 0, none⟩ = some (.string t.a) ∧ w'.cell? ⟨w.heap.size, 1, none⟩ = some (.string t.b) ∧ w'.cell? ⟨w.heap.size, 2, none⟩ = some (.string t.c) ∧ w'.cell? ⟨w.heap.size, 3, none⟩ = some (.string t.d) ∧ w'.cell? ⟨w.heap.size, 4, none⟩ = some (.string t.e) ∧ w'.cell? ⟨w.heap.size, 5, none⟩ = some (.string t.f) ∧ w'.cell? ⟨(w.heap.size + 1), 0, none⟩ = some (.string u.a) ∧ w'.cell? ⟨(w.heap.size + 1), 1, none⟩ = some (.string u.b) ∧ w'.cell? ⟨(w.heap.size + 1), 2, none⟩ = some (.string u.c) ∧ w'.cell? ⟨(w.heap.size + 1), 3, none⟩ = some (.string u.d) ∧ w'.cell? ⟨(w.heap.size + 1), 4, none⟩ = some (.string u.e) ∧ w'.cell? ⟨(w.heap.size + 1), 5, none⟩ = some (.string u.f) ∧ w.heap.size < w'.heap.size ∧ (w.heap.size + 1) < w'.heap.size) (first | assumption | exact tt_keep (by assumption) (by assumption))
            (first | (go_at_call 12; with_reducible refine Calls.mono (tcheck_e t _ _ FT.out HK.out) ?_; rintro e w' ⟨rfl, hw⟩) | (go_at_call 14; with_reducible refine Calls.mono (rtcheck_e t _ _ FT.out HK.out) ?_; rintro e w' ⟨rfl, hw⟩) | (go_at_call 13; with_reducible refine Calls.mono (ttext_e t _ _ ST.out HT.out) ?_; rintro e w' ⟨rfl, hw⟩) | (go_at_call 15; with_reducible refine Calls.mono (rttext_e t _ _ ST.out HT.out) ?_; rintro e w' ⟨rfl, hw⟩) | (go_at_call 16; with_reducible refine Calls.mono (tcmp_e t u _ _ HV1.out) ?_; rintro e w' ⟨rfl, hw⟩) | (go_at_call 16; with_reducible refine Calls.mono (tcmp_e u t _ _ HV2.out) ?_; rintro e w' ⟨rfl, hw⟩) | (go_at_call 17; with_reducible refine Calls.mono (rtcmp_e t u _ _ FT.out FU.out HV1.out) ?_; rintro e w' ⟨rfl, hw⟩))
          go_wp2_with fail
          go_meet
          refine ⟨rfl, by assumption, ?_⟩
          repeat (refine g_trans ?_ (by assumption))
          exact g_drew hB
        · have HV1 : Hid (cmpT t u = 0) := hid hv
          have HV2 : Hid (cmpT u t = 0) := by have := tot.anti t u; show cmpT u t = _; omega
          clear hv
          go_region_held3 (fun w' => w'.cell? ⟨w.heap.size, 0, none⟩ = some (.string t.a) ∧ w'.cell? ⟨w.heap.size, 1, none⟩ = some (.string t.b) ∧ w'.cell? ⟨w.heap.size, 2, none⟩ = some (.string t.c) ∧ w'.cell? ⟨w.heap.size, 3, none⟩ = some (.string t.d) ∧ w'.cell? ⟨w.heap.size, 4, none⟩ = some (.string t.e) ∧ w'.cell? ⟨w.heap.size, 5, none⟩ = some (.string t.f) ∧ w'.cell? ⟨(w.heap.size + 1), 0, none⟩ = some (.string u.a) ∧ w'.cell? ⟨(w.heap.size + 1), 1, none⟩ = some (.string u.b) ∧ w'.cell? ⟨(w.heap.size + 1), 2, none⟩ = some (.string u.c) ∧ w'.cell? ⟨(w.heap.size + 1), 3, none⟩ = some (.string u.d) ∧ w'.cell? ⟨(w.heap.size + 1), 4, none⟩ = some (.string u.e) ∧ w'.cell? ⟨(w.heap.size + 1), 5, none⟩ = some (.string u.f) ∧ w.heap.size < w'.heap.size ∧ (w.heap.size + 1) < w'.heap.size) (first | assumption | exact tt_keep (by assumption) (by assumption))
            (first | (go_at_call 12; with_reducible refine Calls.mono (tcheck_e t _ _ FT.out HK.out) ?_; rintro e w' ⟨rfl, hw⟩) | (go_at_call 14; with_reducible refine Calls.mono (rtcheck_e t _ _ FT.out HK.out) ?_; rintro e w' ⟨rfl, hw⟩) | (go_at_call 13; with_reducible refine Calls.mono (ttext_e t _ _ ST.out HT.out) ?_; rintro e w' ⟨rfl, hw⟩) | (go_at_call 15; with_reducible refine Calls.mono (rttext_e t _ _ ST.out HT.out) ?_; rintro e w' ⟨rfl, hw⟩) | (go_at_call 16; with_reducible refine Calls.mono (tcmp_e t u _ _ HV1.out) ?_; rintro e w' ⟨rfl, hw⟩) | (go_at_call 16; with_reducible refine Calls.mono (tcmp_e u t _ _ HV2.out) ?_; rintro e w' ⟨rfl, hw⟩) | (go_at_call 17; with_reducible refine Calls.mono (rtcmp_e t u _ _ FT.out FU.out HV1.out) ?_; rintro e w' ⟨rfl, hw⟩))
          go_wp2_with fail
          go_meet
          refine ⟨rfl, by assumption, ?_⟩
          repeat (refine g_trans ?_ (by assumption))
          exact g_drew hB
        · have HV1 : Hid (cmpT t u = 1) := hid hv
          have HV2 : Hid (cmpT u t = -1) := by have := tot.anti t u; show cmpT u t = _; omega
          clear hv
          go_region_held3 (fun w' => w'.cell? ⟨w.heap.size, 0, none⟩ = some (.string t.a) ∧ w'.cell? ⟨w.heap.size, 1, none⟩ = some (.string t.b) ∧ w'.cell? ⟨w.heap.size, 2, none⟩ = some (.string t.c) ∧ w'.cell? ⟨w.heap.size, 3, none⟩ = some (.string t.d) ∧ w'.cell? ⟨w.heap.size, 4, none⟩ = some (.string t.e) ∧ w'.cell? ⟨w.heap.size, 5, none⟩ = some (.string t.f) ∧ w'.cell? ⟨(w.heap.size + 1), 0, none⟩ = some (.string u.a) ∧ w'.cell? ⟨(w.heap.size + 1), 1, none⟩ = some (.string u.b) ∧ w'.cell? ⟨(w.heap.size + 1), 2, none⟩ = some (.string u.c) ∧ w'.cell? ⟨(w.heap.size + 1), 3, none⟩ = some (.string u.d) ∧ w'.cell? ⟨(w.heap.size + 1), 4, none⟩ = some (.string u.e) ∧ w'.cell? ⟨(w.heap.size + 1), 5, none⟩ = some (.string u.f) ∧ w.heap.size < w'.heap.size ∧ (w.heap.size + 1) < w'.heap.size) (first | assumption | exact tt_keep (by assumption) (by assumption))
            (first | (go_at_call 12; with_reducible refine Calls.mono (tcheck_e t _ _ FT.out HK.out) ?_; rintro e w' ⟨rfl, hw⟩) | (go_at_call 14; with_reducible refine Calls.mono (rtcheck_e t _ _ FT.out HK.out) ?_; rintro e w' ⟨rfl, hw⟩) | (go_at_call 13; with_reducible refine Calls.mono (ttext_e t _ _ ST.out HT.out) ?_; rintro e w' ⟨rfl, hw⟩) | (go_at_call 15; with_reducible refine Calls.mono (rttext_e t _ _ ST.out HT.out) ?_; rintro e w' ⟨rfl, hw⟩) | (go_at_call 16; with_reducible refine Calls.mono (tcmp_e t u _ _ HV1.out) ?_; rintro e w' ⟨rfl, hw⟩) | (go_at_call 16; with_reducible refine Calls.mono (tcmp_e u t _ _ HV2.out) ?_; rintro e w' ⟨rfl, hw⟩) | (go_at_call 17; with_reducible refine Calls.mono (rtcmp_e t u _ _ FT.out FU.out HV1.out) ?_; rintro e w' ⟨rfl, hw⟩))
          go_wp2_with fail
          go_meet
          refine ⟨rfl, by assumption, ?_⟩
          repeat (refine g_trans ?_ (by assumption))
          exact g_drew hB
      case rest =>
        obtain ⟨rfl, hS9, hB9⟩ := hcut
        have HS9 := hid hS9
        clear hS9 hS HS hB
        obtain ⟨g0, g1, g2, g3, g4, g5, g6, g7, g8, g9, g10, g11, g12, g13⟩ := HS9.out
        go_wp2_with fail
        clear g0 g1 g2 g3 g4 g5 g6 g7 g8 g9 g10 g11 g12 g13
        refine (ttext_e t s _ ST.out HT.out).mono ?_
        rintro e w10 ⟨rfl, hw10⟩
        have HS10 := hid (tt_keep hw10 HS9.out)
        have hB10 := hid (g_trans hB9 hw10)
        clear hB9 hw10 HS9
        obtain ⟨⟨b, n⟩, hb⟩ : ∃ z, ptup s = z := ⟨_, rfl⟩
        go_wp2_with fail
        refine (tparse_v s b n _ (Nat.le_trans TS.out (by decide)) hb).mono ?_
        rintro e w11 ⟨rfl, hw11⟩
        have HS11 := hid (tt_keep hw11 HS10.out)
        have hB11 := hid (g_trans hB10.out hw11)
        clear hB10 hw11 HS10
        obtain ⟨g0, g1, g2, g3, g4, g5, g6, g7, g8, g9, g10, g11, g12, g13⟩ := HS11.out
        cases hok : okT t
        · have hk6 : kk = 6 := by rw [← HK.out, hok]; rfl
          subst hk6
          go_wp2_with fail
          clear g0 g1 g2 g3 g4 g5 g6 g7 g8 g9 g10 g11 g12 g13
          refine (rtcheck_e t 6 _ FT.out HK.out).mono ?_
          rintro e w12 ⟨rfl, hw12⟩
          have hB12 := hid (g_trans (g_alloc hB11.out _) hw12)
          clear hw12
          go_wp2_with fail
          refine (lives_any _).mono ?_
          rintro e w13 ⟨rfl, hw13⟩
          go_wp2
          go_ret
          exact ⟨rfl, g_trans hB12.out hw13⟩
        · have hk0 : kk = 0 := by rw [← HK.out, hok]; rfl
          subst hk0
          have hbb : (b, n) = (t, 0) := by rw [← hb, ← HT.out]; exact back_tup hok
          injection hbb with e1 e2
          subst e1 e2
          go_wp2_with fail
          clear g0 g1 g2 g3 g4 g5 g6 g7 g8 g9 g10 g11 g12 g13
          have T11 : Hid (Tc (w11.alloc (.cells #[.string b.a, .string b.b, .string b.c, .string b.d, .string b.e, .string b.f] 29)) w11.heap.size b) := hid (by simp only [Tc]; exact ⟨by go_simp, by go_simp, by go_simp, by go_simp, by go_simp, by go_simp, by simp⟩)
          have HS12 := hid (tt_keep (g_alloc g_refl (.cells #[.string b.a, .string b.b, .string b.c, .string b.d, .string b.e, .string b.f] 29)) HS11.out)
          refine (rtcheck_e b 0 _ FT.out HK.out).mono ?_
          rintro e w12 ⟨rfl, hw12⟩
          have HS13 := hid (tt_keep hw12 HS12.out)
          have T12 := T11.out.keep hw12
          simp only [Tc] at T12
          obtain ⟨y0, y1, y2, y3, y4, y5, y6⟩ := T12
          obtain ⟨g0, g1, g2, g3, g4, g5, g6, g7, g8, g9, g10, g11, g12, g13⟩ := HS13.out
          have hB12 := hid (g_trans (g_alloc hB11.out _) hw12)
          clear hw12 HS12 HS13 T11 HS11
          go_wp2_with fail
          refine (lives_any _).mono ?_
          rintro e w13 ⟨rfl, hw13⟩
          go_wp2
          go_ret
          exact ⟨rfl, g_trans hB12.out hw13⟩

end Go.Proofs.Ythdpagkadcbeiaa
