/-
  THE CONTRACTS of V.tuple of layer 4's law.
-/
import Derived.Test.YtohnhjmiblgkkaaCWx
import Derived.Deep.RegionHeld3
import Derived.Deep.DeepCutAuto
namespace Go.Proofs.Ytohnhjmiblgkkaa
open Go.RowKit

theorem keep_any {w : World} {a q i o : Nat} {u : Value} {v : Option Value} (h : q ≠ a) (hc : w.cell? ⟨a, i, none⟩ = v) : (w.setCell ⟨q, o, none⟩ u).cell? ⟨a, i, none⟩ = v :=
  (World.cell?_setCell_other _ _ _ _ (ne_blk h)).trans hc
theorem keep_drew {w : World} {a i : Nat} {v : Option Value} (hc : w.cell? ⟨a, i, none⟩ = v) : w.drew.cell? ⟨a, i, none⟩ = v := hc
theorem g_set3 {a b : World} {p o : Nat} {v : Value} (h : Below a.heap.size a b) (hp : a.heap.size ≤ p) : Below a.heap.size a (b.setCell ⟨p, o, none⟩ v) := g_set h hp v

set_option maxRecDepth 20000 in
set_option maxHeartbeats 800000 in
theorem rof_any (g : Nat) (a b c d e f : ByteArray) (w : World) (h0 : w.cell? ⟨g, 2, none⟩ = some (.string a)) (h1 : w.cell? ⟨g, 3, none⟩ = some (.string b)) (h2 : w.cell? ⟨g, 4, none⟩ = some (.string c)) (h3 : w.cell? ⟨g, 5, none⟩ = some (.string d)) (h4 : w.cell? ⟨g, 6, none⟩ = some (.string e)) (h5 : w.cell? ⟨g, 7, none⟩ = some (.string f)) :
    Calls Try.prog 68 #[.slice (some ⟨g, 2, none⟩) 6 6] w fun x w' => x = .returned (.agg #[.string a, .string b, .string c, .string d, .string e, .string f]) ∧ Below w.heap.size w w' := by
  have hbl : g < w.heap.size := World.block_lt_of_cell? _ _ h0
  have HQ := hid (show w.heap.size ≠ g by omega)
  have HB := hid (show Below w.heap.size w (w.alloc (.cells #[.string ⟨#[]⟩, .string ⟨#[]⟩, .string ⟨#[]⟩, .string ⟨#[]⟩, .string ⟨#[]⟩, .string ⟨#[]⟩] 75)) from g_alloc g_refl _)
  have c0 : (w.alloc (.cells #[.string ⟨#[]⟩, .string ⟨#[]⟩, .string ⟨#[]⟩, .string ⟨#[]⟩, .string ⟨#[]⟩, .string ⟨#[]⟩] 75)).cell? ⟨g, 2, none⟩ = some (.string a) := (World.cell?_alloc_lt w _ _ hbl).trans h0
  have k0 : (w.alloc (.cells #[.string ⟨#[]⟩, .string ⟨#[]⟩, .string ⟨#[]⟩, .string ⟨#[]⟩, .string ⟨#[]⟩, .string ⟨#[]⟩] 75)).cell? ⟨w.heap.size, 0, none⟩ = some (.string ⟨#[]⟩) := by go_simp
  have f0 : (w.alloc (.cells #[.string ⟨#[]⟩, .string ⟨#[]⟩, .string ⟨#[]⟩, .string ⟨#[]⟩, .string ⟨#[]⟩, .string ⟨#[]⟩] 75)).frozen? ⟨w.heap.size, 0, none⟩ = false := by go_simp
  have c1 : (w.alloc (.cells #[.string ⟨#[]⟩, .string ⟨#[]⟩, .string ⟨#[]⟩, .string ⟨#[]⟩, .string ⟨#[]⟩, .string ⟨#[]⟩] 75)).cell? ⟨g, 3, none⟩ = some (.string b) := (World.cell?_alloc_lt w _ _ hbl).trans h1
  have k1 : (w.alloc (.cells #[.string ⟨#[]⟩, .string ⟨#[]⟩, .string ⟨#[]⟩, .string ⟨#[]⟩, .string ⟨#[]⟩, .string ⟨#[]⟩] 75)).cell? ⟨w.heap.size, 1, none⟩ = some (.string ⟨#[]⟩) := by go_simp
  have f1 : (w.alloc (.cells #[.string ⟨#[]⟩, .string ⟨#[]⟩, .string ⟨#[]⟩, .string ⟨#[]⟩, .string ⟨#[]⟩, .string ⟨#[]⟩] 75)).frozen? ⟨w.heap.size, 1, none⟩ = false := by go_simp
  have c2 : (w.alloc (.cells #[.string ⟨#[]⟩, .string ⟨#[]⟩, .string ⟨#[]⟩, .string ⟨#[]⟩, .string ⟨#[]⟩, .string ⟨#[]⟩] 75)).cell? ⟨g, 4, none⟩ = some (.string c) := (World.cell?_alloc_lt w _ _ hbl).trans h2
  have k2 : (w.alloc (.cells #[.string ⟨#[]⟩, .string ⟨#[]⟩, .string ⟨#[]⟩, .string ⟨#[]⟩, .string ⟨#[]⟩, .string ⟨#[]⟩] 75)).cell? ⟨w.heap.size, 2, none⟩ = some (.string ⟨#[]⟩) := by go_simp
  have f2 : (w.alloc (.cells #[.string ⟨#[]⟩, .string ⟨#[]⟩, .string ⟨#[]⟩, .string ⟨#[]⟩, .string ⟨#[]⟩, .string ⟨#[]⟩] 75)).frozen? ⟨w.heap.size, 2, none⟩ = false := by go_simp
  have c3 : (w.alloc (.cells #[.string ⟨#[]⟩, .string ⟨#[]⟩, .string ⟨#[]⟩, .string ⟨#[]⟩, .string ⟨#[]⟩, .string ⟨#[]⟩] 75)).cell? ⟨g, 5, none⟩ = some (.string d) := (World.cell?_alloc_lt w _ _ hbl).trans h3
  have k3 : (w.alloc (.cells #[.string ⟨#[]⟩, .string ⟨#[]⟩, .string ⟨#[]⟩, .string ⟨#[]⟩, .string ⟨#[]⟩, .string ⟨#[]⟩] 75)).cell? ⟨w.heap.size, 3, none⟩ = some (.string ⟨#[]⟩) := by go_simp
  have f3 : (w.alloc (.cells #[.string ⟨#[]⟩, .string ⟨#[]⟩, .string ⟨#[]⟩, .string ⟨#[]⟩, .string ⟨#[]⟩, .string ⟨#[]⟩] 75)).frozen? ⟨w.heap.size, 3, none⟩ = false := by go_simp
  have c4 : (w.alloc (.cells #[.string ⟨#[]⟩, .string ⟨#[]⟩, .string ⟨#[]⟩, .string ⟨#[]⟩, .string ⟨#[]⟩, .string ⟨#[]⟩] 75)).cell? ⟨g, 6, none⟩ = some (.string e) := (World.cell?_alloc_lt w _ _ hbl).trans h4
  have k4 : (w.alloc (.cells #[.string ⟨#[]⟩, .string ⟨#[]⟩, .string ⟨#[]⟩, .string ⟨#[]⟩, .string ⟨#[]⟩, .string ⟨#[]⟩] 75)).cell? ⟨w.heap.size, 4, none⟩ = some (.string ⟨#[]⟩) := by go_simp
  have f4 : (w.alloc (.cells #[.string ⟨#[]⟩, .string ⟨#[]⟩, .string ⟨#[]⟩, .string ⟨#[]⟩, .string ⟨#[]⟩, .string ⟨#[]⟩] 75)).frozen? ⟨w.heap.size, 4, none⟩ = false := by go_simp
  have c5 : (w.alloc (.cells #[.string ⟨#[]⟩, .string ⟨#[]⟩, .string ⟨#[]⟩, .string ⟨#[]⟩, .string ⟨#[]⟩, .string ⟨#[]⟩] 75)).cell? ⟨g, 7, none⟩ = some (.string f) := (World.cell?_alloc_lt w _ _ hbl).trans h5
  have k5 : (w.alloc (.cells #[.string ⟨#[]⟩, .string ⟨#[]⟩, .string ⟨#[]⟩, .string ⟨#[]⟩, .string ⟨#[]⟩, .string ⟨#[]⟩] 75)).cell? ⟨w.heap.size, 5, none⟩ = some (.string ⟨#[]⟩) := by go_simp
  have f5 : (w.alloc (.cells #[.string ⟨#[]⟩, .string ⟨#[]⟩, .string ⟨#[]⟩, .string ⟨#[]⟩, .string ⟨#[]⟩, .string ⟨#[]⟩] 75)).frozen? ⟨w.heap.size, 5, none⟩ = false := by go_simp
  clear h0 h1 h2 h3 h4 h5
  go_enter Try.func68, Try.ntmps68
  go_wp2_with fail
  generalize hW : (w.alloc (.cells #[.string ⟨#[]⟩, .string ⟨#[]⟩, .string ⟨#[]⟩, .string ⟨#[]⟩, .string ⟨#[]⟩, .string ⟨#[]⟩] 75)) = W1 at *
  generalize hq : w.heap.size = q at *
  have HE := hid (And.intro hW hq)
  clear hW hq
  have hS : W1.drew.cell? ⟨g, 2, none⟩ = some (.string a) ∧ W1.drew.cell? ⟨g, 3, none⟩ = some (.string b) ∧ W1.drew.cell? ⟨g, 4, none⟩ = some (.string c) ∧ W1.drew.cell? ⟨g, 5, none⟩ = some (.string d) ∧ W1.drew.cell? ⟨g, 6, none⟩ = some (.string e) ∧ W1.drew.cell? ⟨g, 7, none⟩ = some (.string f) := ⟨c0, c1, c2, c3, c4, c5⟩
  go_region_held3 (fun w' => w'.cell? ⟨g, 2, none⟩ = some (.string a) ∧ w'.cell? ⟨g, 3, none⟩ = some (.string b) ∧ w'.cell? ⟨g, 4, none⟩ = some (.string c) ∧ w'.cell? ⟨g, 5, none⟩ = some (.string d) ∧ w'.cell? ⟨g, 6, none⟩ = some (.string e) ∧ w'.cell? ⟨g, 7, none⟩ = some (.string f)) (first | with_reducible assumption | with_reducible exact hS | exact ⟨(by (repeat (first | with_reducible refine keep_drew ?_ | with_reducible refine keep_any HQ.out ?_)); with_reducible assumption), (by (repeat (first | with_reducible refine keep_drew ?_ | with_reducible refine keep_any HQ.out ?_)); with_reducible assumption), (by (repeat (first | with_reducible refine keep_drew ?_ | with_reducible refine keep_any HQ.out ?_)); with_reducible assumption), (by (repeat (first | with_reducible refine keep_drew ?_ | with_reducible refine keep_any HQ.out ?_)); with_reducible assumption), (by (repeat (first | with_reducible refine keep_drew ?_ | with_reducible refine keep_any HQ.out ?_)); with_reducible assumption), (by (repeat (first | with_reducible refine keep_drew ?_ | with_reducible refine keep_any HQ.out ?_)); with_reducible assumption)⟩) (fail)
  all_goals go_wp2
  all_goals (obtain ⟨hW, hq⟩ := HE.out; subst hq; subst hW)
  refine bodyPost_ret (v := .agg #[.string a, .string b, .string c, .string d, .string e, .string f]) ?_ rfl ?_
  · simp [results, Try.results68, go_sem, *]
  · exact ⟨rfl, by repeat (first | with_reducible exact HB.out | with_reducible refine g_drew ?_ | with_reducible refine g_set3 ?_ (Nat.le_refl _))⟩

set_option maxRecDepth 20000 in
set_option maxHeartbeats 800000 in
theorem vtuple_any (K n : Nat) (a b c d e f : ByteArray) (w : World) :
    Calls Try.prog 31 #[.agg #[.int .u8 (K : Int), .int .u64 (n : Int), .string a, .string b, .string c, .string d, .string e, .string f]] w fun x w' => x = .returned (.agg #[.string a, .string b, .string c, .string d, .string e, .string f]) ∧ Below w.heap.size w w' := by
  have HB := hid (show Below w.heap.size w ((w.alloc (.cells #[.int .u8 (K : Int), .int .u64 (n : Int), .string a, .string b, .string c, .string d, .string e, .string f] 31)).alloc (.cells #[.string ⟨#[]⟩, .string ⟨#[]⟩, .string ⟨#[]⟩, .string ⟨#[]⟩, .string ⟨#[]⟩, .string ⟨#[]⟩] 75)) from g_alloc (g_alloc g_refl _) _)
  go_enter Try.func31, Try.ntmps31
  go_wp2_with fail
  refine (rof_any w.heap.size a b c d e f _ (by go_simp) (by go_simp) (by go_simp) (by go_simp) (by go_simp) (by go_simp)).mono ?_
  rintro x w1 ⟨rfl, hb1⟩
  have k0 : w1.cell? ⟨w.heap.size + 1, 0, none⟩ = some (.string ⟨#[]⟩) := (hb1.cell (p := ⟨w.heap.size + 1, 0, none⟩) (by simp)).trans (by go_simp)
  have f0 : w1.frozen? ⟨w.heap.size + 1, 0, none⟩ = false := (hb1.frozen (p := ⟨w.heap.size + 1, 0, none⟩) (by simp)).trans (by go_simp)
  have k1 : w1.cell? ⟨w.heap.size + 1, 1, none⟩ = some (.string ⟨#[]⟩) := (hb1.cell (p := ⟨w.heap.size + 1, 1, none⟩) (by simp)).trans (by go_simp)
  have f1 : w1.frozen? ⟨w.heap.size + 1, 1, none⟩ = false := (hb1.frozen (p := ⟨w.heap.size + 1, 1, none⟩) (by simp)).trans (by go_simp)
  have k2 : w1.cell? ⟨w.heap.size + 1, 2, none⟩ = some (.string ⟨#[]⟩) := (hb1.cell (p := ⟨w.heap.size + 1, 2, none⟩) (by simp)).trans (by go_simp)
  have f2 : w1.frozen? ⟨w.heap.size + 1, 2, none⟩ = false := (hb1.frozen (p := ⟨w.heap.size + 1, 2, none⟩) (by simp)).trans (by go_simp)
  have k3 : w1.cell? ⟨w.heap.size + 1, 3, none⟩ = some (.string ⟨#[]⟩) := (hb1.cell (p := ⟨w.heap.size + 1, 3, none⟩) (by simp)).trans (by go_simp)
  have f3 : w1.frozen? ⟨w.heap.size + 1, 3, none⟩ = false := (hb1.frozen (p := ⟨w.heap.size + 1, 3, none⟩) (by simp)).trans (by go_simp)
  have k4 : w1.cell? ⟨w.heap.size + 1, 4, none⟩ = some (.string ⟨#[]⟩) := (hb1.cell (p := ⟨w.heap.size + 1, 4, none⟩) (by simp)).trans (by go_simp)
  have f4 : w1.frozen? ⟨w.heap.size + 1, 4, none⟩ = false := (hb1.frozen (p := ⟨w.heap.size + 1, 4, none⟩) (by simp)).trans (by go_simp)
  have k5 : w1.cell? ⟨w.heap.size + 1, 5, none⟩ = some (.string ⟨#[]⟩) := (hb1.cell (p := ⟨w.heap.size + 1, 5, none⟩) (by simp)).trans (by go_simp)
  have f5 : w1.frozen? ⟨w.heap.size + 1, 5, none⟩ = false := (hb1.frozen (p := ⟨w.heap.size + 1, 5, none⟩) (by simp)).trans (by go_simp)
  have HB1 := hid (g_trans HB.out hb1)
  clear hb1
  go_wp2
  refine bodyPost_ret (v := .agg #[.string a, .string b, .string c, .string d, .string e, .string f]) ?_ rfl ?_
  · simp [results, Try.results31, go_sem, *]
  · exact ⟨rfl, by repeat (first | with_reducible exact HB1.out | with_reducible refine g_set3 ?_ (Nat.le_add_right _ _))⟩

end Go.Proofs.Ytohnhjmiblgkkaa
