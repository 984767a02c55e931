/-
  CodecsOnce: for every list of bytes and every list of kinds the call returns true, and both read as before. No condition.
-/
import Derived.Test.YtohnhjmiblgkkaaCLOnce
import Derived.Test.YtohnhjmiblgkkaaCArg
import Derived.Deep.Slices
namespace Go.Proofs.Ytohnhjmiblgkkaa
open Go.ChangeShapes Go.WideShapes Go.ChangeAt Go.RowKit Go.Deep
section
variable {H : Type} {enc : TypeId × Value → H} {w : World} {base : Nat} {spare : Nat → Bool} {held : Bool}
theorem i64_rng {n : Int} (h : (Lit.int .i64 n).wf = true) : -9223372036854775808 ≤ n ∧ n ≤ 9223372036854775807 := by
  simp [Lit.wf, IntKind.min, IntKind.max, IntKind.signed, IntKind.bits] at h
  omega
/-- the number in a cell -/
def cellI (w : World) (a : Addr) : Int :=
  match w.cell? a with
  | some (.int _ n) => n
  | _ => 0
theorem cellI_of {w : World} {a : Addr} {k : IntKind} {n : Int} (h : w.cell? a = some (.int k n)) : cellI w a = n := by unfold cellI; rw [h]
theorem kTypes : ∃ m0 m1 : Field, Try.prog.underlying 47 = some (.struct #[m0, m1]) ∧ (m0.type = 5 ∧ m1.type = 3) ∧ (m0.offset = 0 ∧ m1.offset = 1) :=
  ⟨_, _, Try.underlying47, ⟨rfl, rfl⟩, ⟨rfl, rfl⟩⟩
theorem cellsK : Try.prog.cellsOf 47 = 2 := by kernel_rfl
theorem cellsK0 : Try.prog.cellsOf 5 = 1 := by kernel_rfl
theorem cellsK1 : Try.prog.cellsOf 3 = 1 := by kernel_rfl
theorem trod_k {fuel : Nat} {u v : Value} {x : DataW H × List MemPlace} (h : DataW.trod enc Try.prog w base spare held fuel 47 [u, v] = some x) :
    ∃ (p : Nat) (q : Int), u = .int .u8 (p : Int) ∧ v = .int .i64 q ∧ p < 256 ∧ (-9223372036854775808 ≤ q ∧ q ≤ 9223372036854775807) := by
  obtain ⟨m0, m1, hu, ⟨t0, t1⟩, o0, o1⟩ := kTypes
  obtain ⟨xs, k, _, _, _, hxl, hxs⟩ := DataW.trod_struct hu (cs := [u, v]) h
  have h0 := hxs 0 m0 rfl
  have h1 := hxs 1 m1 rfl
  rw [t0, o0, cellsK0] at h0
  rw [t1, o1, cellsK1] at h1
  match xs, hxl with
  | [y0, y1], _ =>
    obtain ⟨n0, e0, -, w0⟩ := DataW.trod_int (cs := [u]) Try.underlying5 (by simpa using h0)
    obtain ⟨n1, e1, -, w1⟩ := DataW.trod_int (cs := [v]) Try.underlying3 (by simpa using h1)
    simp only [List.cons.injEq, and_true] at e0 e1
    obtain ⟨k0, l0⟩ := u8_nat w0
    exact ⟨n0.toNat, n1, by rw [e0, ← k0], e1, l0, i64_rng w1⟩
set_option maxRecDepth 20000 in
theorem open_ks {r : Reach} {b0 : Nat} {v : Value} {d : DataW H} {p : List MemPlace} (hv : Value.okWide Try.prog w r b0 43 v) (h : DataW.Trod enc Try.prog w base spare held 43 v d p) :
    ∃ A K c, v = .slice A (K : List (Nat × Int)).length c ∧ K.length ≤ c ∧ KIn w A K := by
  obtain ⟨a0, n0, c0, rfl⟩ := okWide_slice Try.underlying43 hv
  obtain ⟨fuel, hf⟩ := h
  rcases open_slice Try.underlying43 hf with ⟨hc, -⟩ | ⟨a, len, cap, m, k, D, Pl, hc, hbase, hle, hcap, hm, -, hel⟩
  · have hc' : Value.slice a0 n0 c0 = .slice none 0 0 := by simpa [Value.cells] using hc
    rw [hc']
    exact ⟨none, [], 0, rfl, Nat.le_refl _, fun h => absurd rfl h⟩
  · have hc' : Value.slice a0 n0 c0 = .slice (some a) len cap := by simpa [Value.cells] using hc
    rw [hc']
    have hml : len ≤ m := by rw [hm]; split <;> omega
    have key : ∀ i, i < len → ∃ (p : Nat) (q : Int), w.cell? (a.add (i * 2)) = some (.int .u8 (p : Int)) ∧ w.cell? (a.add (i * 2 + 1)) = some (.int .i64 q) ∧ p < 256 ∧ (-9223372036854775808 ≤ q ∧ q ≤ 9223372036854775807) := fun i hi => by
      obtain ⟨cs', hcells, htr⟩ := hel i (by omega)
      rw [cellsK] at hcells
      obtain ⟨_, hlen, hcell⟩ := World.cells?_some hcells
      match cs', hlen with
      | [u, v], _ =>
        obtain ⟨p, q, rfl, rfl, hp, hq⟩ := trod_k htr
        have q0 := hcell 0 (by decide)
        have q1 := hcell 1 (by decide)
        rw [Addr.add_add] at q0 q1
        exact ⟨p, q, by simpa using q0, by simpa using q1, hp, hq⟩
    refine ⟨some a, (List.range len).map fun i => ((cellI w (a.add (i * 2))).toNat, cellI w (a.add (i * 2 + 1))), cap, by simp, by simpa using hle, fun hne => ?_⟩
    have hlen : 0 < len := by
      rcases Nat.eq_zero_or_pos len with h | h
      · subst h; exact absurd rfl hne
      · exact h
    obtain ⟨p0, q0, hc0, -⟩ := key 0 hlen
    have ha := addr_none (by simpa using hc0)
    have hlt := World.block_lt_of_cell? _ _ hc0
    rw [ha] at hlt
    refine ⟨a.block, a.off, by rw [← ha], by simpa [Addr.add] using hlt, fun i hi => ?_⟩
    have hi' : i < len := by simpa using hi
    obtain ⟨p, q, e0, e1, hp, hq⟩ := key i hi'
    have f0 := cellI_of e0
    have f1 := cellI_of e1
    rw [ha, add_at] at e0 e1
    simp only [List.getElem_map, List.getElem_range, f0, f1]
    exact ⟨by simpa using e0, by rw [← Nat.add_assoc] at e1; exact e1, by simpa using hp, hq⟩
end
end Go.Proofs.Ytohnhjmiblgkkaa
namespace Go.Proofs.Ytohnhjmiblgkkaa.codecsOnce
open Go.ChangeShapes Go.WideShapes Go.ChangeAt Go.RowKit
open Go.ChangeMaps (open_string shut_string)

theorem own : ownKnob Try.prog.godebug = none := by kernel_rfl
theorem laid : laidOutB Try.prog = true := by kernel_rfl

set_option maxRecDepth 100000 in
theorem lifted (os : Os) (started : os.Started) (H : Type) (enc : TypeId × Value → H) :
    ReturnsInHanded {} Try.checked os 5 .any (Rows.codecsOnceSpec.pre6 enc Try.prog Try.f5 Rows.codecsOnceRow.domain false) (Rows.codecsOnceSpec.post enc Try.prog Try.f5 false true false false) := by
  refine returnsInHanded_of_change (C := Try.checked) own started (by kernel_rfl) Try.func5
    (ChangeSpec.witness6 (enc := enc) (C := Try.checked) false ⟨#[], #[.slice none 0 0, .slice none 0 0], []⟩ 8 (by kernel_rfl) (by kernel_rfl) (by kernel_rfl) (by kernel_rfl)) ?_
  intro W base args ds gs before hval0 hW hcnd _
  have hval : ∀ (j : Nat) t v, Try.f5.params[j]? = some t → args[j]? = some v → Value.okWide Try.prog W .any base t v := hval0
  have hW' := hW
  obtain ⟨p, q, hA0, hV, rfl, hfz, hnd⟩ := hW
  have hA : DataW.TrodAll enc Try.prog W 0 (fun _ => true) true Try.f5.params.toList args.toList ds p := hA0
  rw [Try.params5] at hA hval
  obtain ⟨v0, vs0, d0, ds0, p0, q0, hargs, rfl, rfl, h0, r0⟩ := trodAll_cons hA
  obtain ⟨v1, vs1, d1, ds1, p1, q1, rfl, rfl, rfl, h1, r1⟩ := trodAll_cons r0
  obtain ⟨rfl, rfl, rfl⟩ := trodAll_nil r1
  obtain rfl : args = #[v0, v1] := by cases args; simp_all
  obtain ⟨rfl, rfl⟩ := trodVars_none hV
  have k0 := h0
  obtain ⟨A, c, L, rfl, hle, hmx, hnn, hin⟩ := open_u8s Try.underlying25 Try.underlying5 (by kernel_rfl) (hval 0 25 v0 rfl rfl) h0 (fun b o hm => hfz b o (by simp [hm]))
  have k1 := h1
  obtain ⟨A2, Ks, c2, rfl, hle2, hin2⟩ := open_ks (hval 1 43 v1 rfl rfl) h1
  have hlt1 : ∀ x ∈ p1, x.block < W.heap.size := fun x hx => by simpa using hW'.lt x (by simp [hx])
  have hlt0 : ∀ x ∈ p0, x.block < W.heap.size := fun x hx => by simpa using hW'.lt x (by simp [hx])
  clear hA0 hval0
  refine (once_walk A c L A2 c2 Ks W hin hle hnn hin2 hle2).mono fun r W' ⟨he, hg⟩ => ?_
  subst he
  exact ⟨_, rfl, _, _, _, [], _, _, hW', trodAll_cons_mk (shut_bool Try.underlying4 _) trodAll_mk0,
    trodAll_cons_mk (Below.trod laid (by kernel_rfl) (of_decide_eq_true (by kernel_rfl)) k0 hg hlt0) (trodAll_cons_mk (Below.trod laid (by kernel_rfl) (of_decide_eq_true (by kernel_rfl)) k1 hg hlt1) trodAll_mk0), rfl, hg.frame _, fun h => by cases h⟩

theorem over : Rows.codecsOnceRow.holds Try.pinned (OpenSpec.ofChange Rows.codecsOnceSpec) :=
  OpenClaim.holds_of_wide 5 Try.f5 rfl rfl rfl rfl rfl rfl rfl ⟨rfl, rfl, rfl, rfl, rfl⟩ rfl rfl rfl rfl rfl (by kernel_rfl) Try.func5 (by kernel_rfl)
    (of_decide_eq_true (by kernel_rfl)) (by unfold Func.isWrapper; first | (rw [if_pos (by decide +kernel)]; kernel_rfl) | (rw [if_neg (by decide +kernel)]; exact ⟨rfl, rfl⟩))
    (fun os started H enc _ => lifted os started H enc)

theorem proved : Rows.CodecsOnceSaid := over
end Go.Proofs.Ytohnhjmiblgkkaa.codecsOnce
