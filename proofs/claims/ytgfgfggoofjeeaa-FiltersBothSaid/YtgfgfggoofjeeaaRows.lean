/-
  No cell of these rows narrows 'for every input' (looked for: loops, veiled, ifaces, maps, wideKeys, modest, calm, conditions, laid).
  DERIVED. THE GIVEN ROWS OF THIS SEAT. 3 by the template 'for every input the law returns true; each argument reads behind the call as it read before'; 0 by the template 'total and deterministic' (their statements: YtgfgfggoofjeeaaTotals.lean).
  GIVEN WITH THE SEED: the statements are not yours to turn. If you find one false, say at which input.
  Laid BY PROGRAM, IN A SANDBOX (cutbox-rows.mjs): the forced cells as the released guide's own fill.sh prints them over the translation 2c23f7caacad5a5b… (all of the seat's roots in one cut). By AI agents, Wed Nov 11 2026. No macro, syntax, notation, axiom, sorry.
-/
import Derived.Test.YtgfgfggoofjeeaaChecked
import GoSem.Claim
import GoSem.ClaimJoined
import GoSem.ClaimMapViews
import Derived.JoinedTies
import Derived.KernelRfl
namespace Go.Proofs.Ytgfgfggoofjeeaa
/- THE CELL 'sum', in the pinned program and in every row, IS THE sha256 OF THE DUMP (.gsa) THAT YtgfgfggoofjeeaaProg.lean LOADS. Nothing in Lean hashes anything: it is a label: what it is worth is what the hold of that sum in a sandbox is worth. -/
noncomputable def Try.pinned : Pinned := { name := "ytgfgfggoofjeeaa", sum := "2c23f7caacad5a5bc27e36b31481df886ff3d5b5274342e4aac867a52528991e", checked := Try.checked }
namespace Rows
def none {H : Type} : Left H := { results := [], args := [] }

/-- 'countersignlaw03.FiltersBoth': WHATEVER THE INPUT: true; the input reads as it did. -/
def filtersBothSpec : ChangeSpec := { name := "filtersBoth", fn := fun _ => fun
  | [d1, d2, d3] => { results := [.lit (.bool true)], args := [d1, d2, d3] }
  | _ => none }
def filtersBothRow : OpenClaim := { program := "ytgfgfggoofjeeaa", sum := "2c23f7caacad5a5bc27e36b31481df886ff3d5b5274342e4aac867a52528991e", func := "countersign/countersignlaw03.FiltersBoth", spec := "filtersBoth", inPlace := ["internal/bytealg.IndexByteString", "internal/bytealg.IndexString", "internal/bytealg.CountString", "internal/bytealg.abigen_runtime_cmpstring"], unfollowed := true, recurses := true, named := ["internal/bytealg.MaxLen"], apart := false }
def FiltersBothSaid : Prop := filtersBothRow.holds Try.pinned (OpenSpec.ofChange filtersBothSpec)

/-- ITS FALSE NEIGHBOUR: 'it returns false'. Refute it at one input. -/
def filtersBothWrong : ChangeSpec := { name := "filtersBoth", fn := fun _ => fun
  | [d1, d2, d3] => { results := [.lit (.bool false)], args := [d1, d2, d3] }
  | _ => none }
def FiltersBothWrongFalsely : Prop := filtersBothRow.holds Try.pinned (OpenSpec.ofChange filtersBothWrong)

/-- 'countersignlaw03.FiltersErrors': WHATEVER THE INPUT: true; the input reads as it did. -/
def filtersErrorsSpec : ChangeSpec := { name := "filtersErrors", fn := fun _ => fun
  | [d1, d2, d3] => { results := [.lit (.bool true)], args := [d1, d2, d3] }
  | _ => none }
def filtersErrorsRow : OpenClaim := { program := "ytgfgfggoofjeeaa", sum := "2c23f7caacad5a5bc27e36b31481df886ff3d5b5274342e4aac867a52528991e", func := "countersign/countersignlaw03.FiltersErrors", spec := "filtersErrors", inPlace := ["internal/bytealg.IndexByteString", "internal/bytealg.IndexString", "internal/bytealg.CountString", "internal/bytealg.abigen_runtime_cmpstring"], unfollowed := true, recurses := true, named := ["internal/bytealg.MaxLen"], apart := false }
def FiltersErrorsSaid : Prop := filtersErrorsRow.holds Try.pinned (OpenSpec.ofChange filtersErrorsSpec)

/-- ITS FALSE NEIGHBOUR: 'it returns false'. Refute it at one input. -/
def filtersErrorsWrong : ChangeSpec := { name := "filtersErrors", fn := fun _ => fun
  | [d1, d2, d3] => { results := [.lit (.bool false)], args := [d1, d2, d3] }
  | _ => none }
def FiltersErrorsWrongFalsely : Prop := filtersErrorsRow.holds Try.pinned (OpenSpec.ofChange filtersErrorsWrong)

/-- 'countersignlaw06.SetsKnown': WHATEVER THE INPUT: true; the input reads as it did. -/
def setsKnownSpec : ChangeSpec := { name := "setsKnown", fn := fun _ => fun
  | [] => { results := [.lit (.bool true)], args := [] }
  | _ => none }
def setsKnownRow : OpenClaim := { program := "ytgfgfggoofjeeaa", sum := "2c23f7caacad5a5bc27e36b31481df886ff3d5b5274342e4aac867a52528991e", func := "countersign/countersignlaw06.SetsKnown", spec := "setsKnown", inPlace := ["internal/bytealg.abigen_runtime_cmpstring", "internal/bytealg.IndexByteString", "internal/bytealg.IndexString", "internal/bytealg.CountString"], unfollowed := true, recurses := true, named := ["internal/bytealg.MaxLen"], apart := false }
def SetsKnownSaid : Prop := setsKnownRow.holds Try.pinned (OpenSpec.ofChange setsKnownSpec)

/-- ITS FALSE NEIGHBOUR: 'it returns false'. Refute it at one input. -/
def setsKnownWrong : ChangeSpec := { name := "setsKnown", fn := fun _ => fun
  | [] => { results := [.lit (.bool false)], args := [] }
  | _ => none }
def SetsKnownWrongFalsely : Prop := setsKnownRow.holds Try.pinned (OpenSpec.ofChange setsKnownWrong)

/- THE SECOND FORM. 'bulk': how many values and letters a reading holds, each counted each time it is reached (what is shared counts as often as it is met; a slice's spare places count too). A statement '..UptoSaid' is the law's where the arguments, and the package variables that the reading takes, are together of bulk at most 1048576: NARROWER than '..Said'. Prove '..Said' where nothing that the law and all that it calls make is longer than what came in: it says more and counts as full. Else prove '..UptoSaid'. A law counts once. -/
mutual
def uptoBulk {H : Type} : DataW H → Nat
  | .lit (.string bytes) => bytes.length + 1
  | .lit _ => 1
  | .nil => 1
  | .ptr d => uptoBulk d + 1
  | .slice elems spare => uptoBulkAll elems + uptoBulkAll spare + 1
  | .agg parts => uptoBulkAll parts + 1
  | .iface _ d => uptoBulk d + 1
  | .map entries => uptoBulkEntries entries + 1
  | .held _ => 1
def uptoBulkAll {H : Type} : List (DataW H) → Nat
  | [] => 0
  | d :: r => uptoBulk d + uptoBulkAll r
def uptoBulkEntries {H : Type} : List (Lit × DataW H) → Nat
  | [] => 0
  | x :: r => uptoBulkEntry x + uptoBulkEntries r
def uptoBulkEntry {H : Type} : Lit × DataW H → Nat
  | (.string bytes, d) => bytes.length + uptoBulk d + 1
  | (_, d) => uptoBulk d + 1
 end
def uptoSmall : (H : Type) → List (DataW H) → Bool := fun _ ds => decide (uptoBulkAll ds ≤ 1048576)
def OpenSpec.upto (s : _root_.Go.ChangeSpec) : _root_.Go.OpenSpec := { _root_.Go.OpenSpec.ofChange s with cond := some uptoSmall }

/-- 'countersignlaw03.FiltersBoth', WHERE WHAT IT READS IS OF BULK AT MOST 1048576: true; the input reads as it did. -/
def filtersBothUptoRow : OpenClaim := { program := "ytgfgfggoofjeeaa", sum := "2c23f7caacad5a5bc27e36b31481df886ff3d5b5274342e4aac867a52528991e", func := "countersign/countersignlaw03.FiltersBoth", spec := "filtersBoth", inPlace := ["internal/bytealg.IndexByteString", "internal/bytealg.IndexString", "internal/bytealg.CountString", "internal/bytealg.abigen_runtime_cmpstring"], unfollowed := true, recurses := true, named := ["internal/bytealg.MaxLen"], apart := false, narrowed := true }
def FiltersBothUptoSaid : Prop := filtersBothUptoRow.holds Try.pinned (OpenSpec.upto filtersBothSpec)

/-- 'countersignlaw03.FiltersErrors', WHERE WHAT IT READS IS OF BULK AT MOST 1048576: true; the input reads as it did. -/
def filtersErrorsUptoRow : OpenClaim := { program := "ytgfgfggoofjeeaa", sum := "2c23f7caacad5a5bc27e36b31481df886ff3d5b5274342e4aac867a52528991e", func := "countersign/countersignlaw03.FiltersErrors", spec := "filtersErrors", inPlace := ["internal/bytealg.IndexByteString", "internal/bytealg.IndexString", "internal/bytealg.CountString", "internal/bytealg.abigen_runtime_cmpstring"], unfollowed := true, recurses := true, named := ["internal/bytealg.MaxLen"], apart := false, narrowed := true }
def FiltersErrorsUptoSaid : Prop := filtersErrorsUptoRow.holds Try.pinned (OpenSpec.upto filtersErrorsSpec)

/-- 'countersignlaw06.SetsKnown', WHERE WHAT IT READS IS OF BULK AT MOST 1048576: true; the input reads as it did. -/
def setsKnownUptoRow : OpenClaim := { program := "ytgfgfggoofjeeaa", sum := "2c23f7caacad5a5bc27e36b31481df886ff3d5b5274342e4aac867a52528991e", func := "countersign/countersignlaw06.SetsKnown", spec := "setsKnown", inPlace := ["internal/bytealg.abigen_runtime_cmpstring", "internal/bytealg.IndexByteString", "internal/bytealg.IndexString", "internal/bytealg.CountString"], unfollowed := true, recurses := true, named := ["internal/bytealg.MaxLen"], apart := false, narrowed := true }
def SetsKnownUptoSaid : Prop := setsKnownUptoRow.holds Try.pinned (OpenSpec.upto setsKnownSpec)

end Rows
end Go.Proofs.Ytgfgfggoofjeeaa
