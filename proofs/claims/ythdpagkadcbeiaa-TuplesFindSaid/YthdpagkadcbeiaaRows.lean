/-
  No cell of these rows narrows 'for every input' (looked for: loops, veiled, ifaces, maps, wideKeys, modest, calm, conditions, laid).
  DERIVED. THE GIVEN ROWS OF THIS SEAT. 6 by the template 'for every input the law returns true; each argument reads behind the call as it read before'; 0 by the template 'total and deterministic' (their statements: YthdpagkadcbeiaaTotals.lean).
  GIVEN WITH THE SEED: the statements are not yours to turn. If you find one false, say at which input.
  Laid BY PROGRAM, IN A SANDBOX (cutbox-rows.mjs): the forced cells as the released guide's own fill.sh prints them over the translation 80908e05c41f55f1… (all of the seat's roots in one cut). By AI agents, Wed Nov 11 2026. No macro, syntax, notation, axiom, sorry.
-/
import Derived.Test.YthdpagkadcbeiaaChecked
import GoSem.Claim
import GoSem.ClaimJoined
import GoSem.ClaimMapViews
import Derived.JoinedTies
import Derived.KernelRfl
namespace Go.Proofs.Ythdpagkadcbeiaa
/- THE CELL 'sum', in the pinned program and in every row, IS THE sha256 OF THE DUMP (.gsa) THAT YthdpagkadcbeiaaProg.lean LOADS. Nothing in Lean hashes anything: it is a label: what it is worth is what the hold of that sum in a sandbox is worth. -/
noncomputable def Try.pinned : Pinned := { name := "ythdpagkadcbeiaa", sum := "80908e05c41f55f13aee91af4155cf06ffa4c4a2ab84dc8312f3d70e63638ede", checked := Try.checked }
namespace Rows
def none {H : Type} : Left H := { results := [], args := [] }

/-- 'countersignlaw02.TuplesParse': WHATEVER THE INPUT: true; the input reads as it did. -/
def tuplesParseSpec : ChangeSpec := { name := "tuplesParse", fn := fun _ => fun
  | [d] => { results := [.lit (.bool true)], args := [d] }
  | _ => none }
def tuplesParseRow : OpenClaim := { program := "ythdpagkadcbeiaa", sum := "80908e05c41f55f13aee91af4155cf06ffa4c4a2ab84dc8312f3d70e63638ede", func := "countersign/countersignlaw02.TuplesParse", spec := "tuplesParse", inPlace := ["internal/bytealg.IndexByteString", "internal/bytealg.IndexString", "internal/bytealg.CountString", "internal/bytealg.abigen_runtime_cmpstring"], unfollowed := true, recurses := true, named := ["internal/bytealg.MaxLen"], apart := false }
def TuplesParseSaid : Prop := tuplesParseRow.holds Try.pinned (OpenSpec.ofChange tuplesParseSpec)

/-- ITS FALSE NEIGHBOUR: 'it returns false'. Refute it at one input. -/
def tuplesParseWrong : ChangeSpec := { name := "tuplesParse", fn := fun _ => fun
  | [d] => { results := [.lit (.bool false)], args := [d] }
  | _ => none }
def TuplesParseWrongFalsely : Prop := tuplesParseRow.holds Try.pinned (OpenSpec.ofChange tuplesParseWrong)

/-- 'countersignlaw02.TuplesCheck': WHATEVER THE INPUT: true; the input reads as it did. -/
def tuplesCheckSpec : ChangeSpec := { name := "tuplesCheck", fn := fun _ => fun
  | [d1, d2] => { results := [.lit (.bool true)], args := [d1, d2] }
  | _ => none }
def tuplesCheckRow : OpenClaim := { program := "ythdpagkadcbeiaa", sum := "80908e05c41f55f13aee91af4155cf06ffa4c4a2ab84dc8312f3d70e63638ede", func := "countersign/countersignlaw02.TuplesCheck", spec := "tuplesCheck", inPlace := ["internal/bytealg.IndexByteString", "internal/bytealg.IndexString", "internal/bytealg.CountString", "internal/bytealg.abigen_runtime_cmpstring"], unfollowed := true, recurses := true, named := ["internal/bytealg.MaxLen"], apart := false }
def TuplesCheckSaid : Prop := tuplesCheckRow.holds Try.pinned (OpenSpec.ofChange tuplesCheckSpec)

/-- ITS FALSE NEIGHBOUR: 'it returns false'. Refute it at one input. -/
def tuplesCheckWrong : ChangeSpec := { name := "tuplesCheck", fn := fun _ => fun
  | [d1, d2] => { results := [.lit (.bool false)], args := [d1, d2] }
  | _ => none }
def TuplesCheckWrongFalsely : Prop := tuplesCheckRow.holds Try.pinned (OpenSpec.ofChange tuplesCheckWrong)

/-- 'countersignlaw02.TuplesSorted': WHATEVER THE INPUT: true; the input reads as it did. -/
def tuplesSortedSpec : ChangeSpec := { name := "tuplesSorted", fn := fun _ => fun
  | [d1, d2] => { results := [.lit (.bool true)], args := [d1, d2] }
  | _ => none }
def tuplesSortedRow : OpenClaim := { program := "ythdpagkadcbeiaa", sum := "80908e05c41f55f13aee91af4155cf06ffa4c4a2ab84dc8312f3d70e63638ede", func := "countersign/countersignlaw02.TuplesSorted", spec := "tuplesSorted", inPlace := ["internal/bytealg.abigen_runtime_cmpstring", "internal/bytealg.IndexByteString", "internal/bytealg.IndexString", "internal/bytealg.CountString"], unfollowed := true, recurses := true, named := ["internal/bytealg.MaxLen"], apart := false }
def TuplesSortedSaid : Prop := tuplesSortedRow.holds Try.pinned (OpenSpec.ofChange tuplesSortedSpec)

/-- ITS FALSE NEIGHBOUR: 'it returns false'. Refute it at one input. -/
def tuplesSortedWrong : ChangeSpec := { name := "tuplesSorted", fn := fun _ => fun
  | [d1, d2] => { results := [.lit (.bool false)], args := [d1, d2] }
  | _ => none }
def TuplesSortedWrongFalsely : Prop := tuplesSortedRow.holds Try.pinned (OpenSpec.ofChange tuplesSortedWrong)

/-- 'countersignlaw02.TuplesFind': WHATEVER THE INPUT: true; the input reads as it did. -/
def tuplesFindSpec : ChangeSpec := { name := "tuplesFind", fn := fun _ => fun
  | [d1, d2] => { results := [.lit (.bool true)], args := [d1, d2] }
  | _ => none }
def tuplesFindRow : OpenClaim := { program := "ythdpagkadcbeiaa", sum := "80908e05c41f55f13aee91af4155cf06ffa4c4a2ab84dc8312f3d70e63638ede", func := "countersign/countersignlaw02.TuplesFind", spec := "tuplesFind", inPlace := ["internal/bytealg.abigen_runtime_cmpstring", "internal/bytealg.IndexByteString", "internal/bytealg.IndexString", "internal/bytealg.CountString"], unfollowed := true, recurses := true, named := ["internal/bytealg.MaxLen"], apart := false }
def TuplesFindSaid : Prop := tuplesFindRow.holds Try.pinned (OpenSpec.ofChange tuplesFindSpec)

/-- ITS FALSE NEIGHBOUR: 'it returns false'. Refute it at one input. -/
def tuplesFindWrong : ChangeSpec := { name := "tuplesFind", fn := fun _ => fun
  | [d1, d2] => { results := [.lit (.bool false)], args := [d1, d2] }
  | _ => none }
def TuplesFindWrongFalsely : Prop := tuplesFindRow.holds Try.pinned (OpenSpec.ofChange tuplesFindWrong)

/-- 'countersignlaw02.TuplesErrors': WHATEVER THE INPUT: true; the input reads as it did. -/
def tuplesErrorsSpec : ChangeSpec := { name := "tuplesErrors", fn := fun _ => fun
  | [d1, d2, d3] => { results := [.lit (.bool true)], args := [d1, d2, d3] }
  | _ => none }
def tuplesErrorsRow : OpenClaim := { program := "ythdpagkadcbeiaa", sum := "80908e05c41f55f13aee91af4155cf06ffa4c4a2ab84dc8312f3d70e63638ede", func := "countersign/countersignlaw02.TuplesErrors", spec := "tuplesErrors", inPlace := ["internal/bytealg.IndexByteString", "internal/bytealg.IndexString", "internal/bytealg.CountString", "internal/bytealg.abigen_runtime_cmpstring"], unfollowed := true, recurses := true, named := ["internal/bytealg.MaxLen"], apart := false }
def TuplesErrorsSaid : Prop := tuplesErrorsRow.holds Try.pinned (OpenSpec.ofChange tuplesErrorsSpec)

/-- ITS FALSE NEIGHBOUR: 'it returns false'. Refute it at one input. -/
def tuplesErrorsWrong : ChangeSpec := { name := "tuplesErrors", fn := fun _ => fun
  | [d1, d2, d3] => { results := [.lit (.bool false)], args := [d1, d2, d3] }
  | _ => none }
def TuplesErrorsWrongFalsely : Prop := tuplesErrorsRow.holds Try.pinned (OpenSpec.ofChange tuplesErrorsWrong)

/-- 'countersignlaw02.TuplesKnown': WHATEVER THE INPUT: true; the input reads as it did. -/
def tuplesKnownSpec : ChangeSpec := { name := "tuplesKnown", fn := fun _ => fun
  | [] => { results := [.lit (.bool true)], args := [] }
  | _ => none }
def tuplesKnownRow : OpenClaim := { program := "ythdpagkadcbeiaa", sum := "80908e05c41f55f13aee91af4155cf06ffa4c4a2ab84dc8312f3d70e63638ede", func := "countersign/countersignlaw02.TuplesKnown", spec := "tuplesKnown", inPlace := ["internal/bytealg.abigen_runtime_cmpstring", "internal/bytealg.IndexByteString", "internal/bytealg.IndexString", "internal/bytealg.CountString"], unfollowed := true, recurses := true, named := ["internal/bytealg.MaxLen"], apart := false }
def TuplesKnownSaid : Prop := tuplesKnownRow.holds Try.pinned (OpenSpec.ofChange tuplesKnownSpec)

/-- ITS FALSE NEIGHBOUR: 'it returns false'. Refute it at one input. -/
def tuplesKnownWrong : ChangeSpec := { name := "tuplesKnown", fn := fun _ => fun
  | [] => { results := [.lit (.bool false)], args := [] }
  | _ => none }
def TuplesKnownWrongFalsely : Prop := tuplesKnownRow.holds Try.pinned (OpenSpec.ofChange tuplesKnownWrong)

/- THE SECOND FORM. 'bulk': how many values and letters a reading holds, each counted each time it is reached (what is shared counts as often as it is met; a slice's spare places count too). A statement '..UptoSaid' is the law's where the arguments, and the package variables that the reading takes, are together of bulk at most 1048576: NARROWER than '..Said'. Prove '..Said' where nothing that the law and all that it calls make is longer than what came in: it says more and counts as full. Else prove '..UptoSaid'. A law counts once. -/
mutual
def uptoBulk {H : Type} : DataW H → Nat
  | .lit (.string bytes) => bytes.length + 1
  | .lit _ => 1
  | .nil => 1
  | .ptr d => uptoBulk d + 1
  | .slice elems spare => uptoBulkAll elems + uptoBulkAll spare + 1
  | .agg parts => uptoBulkAll parts + 1
  | .iface _ d => uptoBulk d + 1
  | .map entries => uptoBulkEntries entries + 1
  | .held _ => 1
def uptoBulkAll {H : Type} : List (DataW H) → Nat
  | [] => 0
  | d :: r => uptoBulk d + uptoBulkAll r
def uptoBulkEntries {H : Type} : List (Lit × DataW H) → Nat
  | [] => 0
  | x :: r => uptoBulkEntry x + uptoBulkEntries r
def uptoBulkEntry {H : Type} : Lit × DataW H → Nat
  | (.string bytes, d) => bytes.length + uptoBulk d + 1
  | (_, d) => uptoBulk d + 1
 end
def uptoSmall : (H : Type) → List (DataW H) → Bool := fun _ ds => decide (uptoBulkAll ds ≤ 1048576)
def OpenSpec.upto (s : _root_.Go.ChangeSpec) : _root_.Go.OpenSpec := { _root_.Go.OpenSpec.ofChange s with cond := some uptoSmall }

/-- 'countersignlaw02.TuplesParse', WHERE WHAT IT READS IS OF BULK AT MOST 1048576: true; the input reads as it did. -/
def tuplesParseUptoRow : OpenClaim := { program := "ythdpagkadcbeiaa", sum := "80908e05c41f55f13aee91af4155cf06ffa4c4a2ab84dc8312f3d70e63638ede", func := "countersign/countersignlaw02.TuplesParse", spec := "tuplesParse", inPlace := ["internal/bytealg.IndexByteString", "internal/bytealg.IndexString", "internal/bytealg.CountString", "internal/bytealg.abigen_runtime_cmpstring"], unfollowed := true, recurses := true, named := ["internal/bytealg.MaxLen"], apart := false, narrowed := true }
def TuplesParseUptoSaid : Prop := tuplesParseUptoRow.holds Try.pinned (OpenSpec.upto tuplesParseSpec)

/-- 'countersignlaw02.TuplesCheck', WHERE WHAT IT READS IS OF BULK AT MOST 1048576: true; the input reads as it did. -/
def tuplesCheckUptoRow : OpenClaim := { program := "ythdpagkadcbeiaa", sum := "80908e05c41f55f13aee91af4155cf06ffa4c4a2ab84dc8312f3d70e63638ede", func := "countersign/countersignlaw02.TuplesCheck", spec := "tuplesCheck", inPlace := ["internal/bytealg.IndexByteString", "internal/bytealg.IndexString", "internal/bytealg.CountString", "internal/bytealg.abigen_runtime_cmpstring"], unfollowed := true, recurses := true, named := ["internal/bytealg.MaxLen"], apart := false, narrowed := true }
def TuplesCheckUptoSaid : Prop := tuplesCheckUptoRow.holds Try.pinned (OpenSpec.upto tuplesCheckSpec)

/-- 'countersignlaw02.TuplesSorted', WHERE WHAT IT READS IS OF BULK AT MOST 1048576: true; the input reads as it did. -/
def tuplesSortedUptoRow : OpenClaim := { program := "ythdpagkadcbeiaa", sum := "80908e05c41f55f13aee91af4155cf06ffa4c4a2ab84dc8312f3d70e63638ede", func := "countersign/countersignlaw02.TuplesSorted", spec := "tuplesSorted", inPlace := ["internal/bytealg.abigen_runtime_cmpstring", "internal/bytealg.IndexByteString", "internal/bytealg.IndexString", "internal/bytealg.CountString"], unfollowed := true, recurses := true, named := ["internal/bytealg.MaxLen"], apart := false, narrowed := true }
def TuplesSortedUptoSaid : Prop := tuplesSortedUptoRow.holds Try.pinned (OpenSpec.upto tuplesSortedSpec)

/-- 'countersignlaw02.TuplesFind', WHERE WHAT IT READS IS OF BULK AT MOST 1048576: true; the input reads as it did. -/
def tuplesFindUptoRow : OpenClaim := { program := "ythdpagkadcbeiaa", sum := "80908e05c41f55f13aee91af4155cf06ffa4c4a2ab84dc8312f3d70e63638ede", func := "countersign/countersignlaw02.TuplesFind", spec := "tuplesFind", inPlace := ["internal/bytealg.abigen_runtime_cmpstring", "internal/bytealg.IndexByteString", "internal/bytealg.IndexString", "internal/bytealg.CountString"], unfollowed := true, recurses := true, named := ["internal/bytealg.MaxLen"], apart := false, narrowed := true }
def TuplesFindUptoSaid : Prop := tuplesFindUptoRow.holds Try.pinned (OpenSpec.upto tuplesFindSpec)

/-- 'countersignlaw02.TuplesErrors', WHERE WHAT IT READS IS OF BULK AT MOST 1048576: true; the input reads as it did. -/
def tuplesErrorsUptoRow : OpenClaim := { program := "ythdpagkadcbeiaa", sum := "80908e05c41f55f13aee91af4155cf06ffa4c4a2ab84dc8312f3d70e63638ede", func := "countersign/countersignlaw02.TuplesErrors", spec := "tuplesErrors", inPlace := ["internal/bytealg.IndexByteString", "internal/bytealg.IndexString", "internal/bytealg.CountString", "internal/bytealg.abigen_runtime_cmpstring"], unfollowed := true, recurses := true, named := ["internal/bytealg.MaxLen"], apart := false, narrowed := true }
def TuplesErrorsUptoSaid : Prop := tuplesErrorsUptoRow.holds Try.pinned (OpenSpec.upto tuplesErrorsSpec)

/-- 'countersignlaw02.TuplesKnown', WHERE WHAT IT READS IS OF BULK AT MOST 1048576: true; the input reads as it did. -/
def tuplesKnownUptoRow : OpenClaim := { program := "ythdpagkadcbeiaa", sum := "80908e05c41f55f13aee91af4155cf06ffa4c4a2ab84dc8312f3d70e63638ede", func := "countersign/countersignlaw02.TuplesKnown", spec := "tuplesKnown", inPlace := ["internal/bytealg.abigen_runtime_cmpstring", "internal/bytealg.IndexByteString", "internal/bytealg.IndexString", "internal/bytealg.CountString"], unfollowed := true, recurses := true, named := ["internal/bytealg.MaxLen"], apart := false, narrowed := true }
def TuplesKnownUptoSaid : Prop := tuplesKnownUptoRow.holds Try.pinned (OpenSpec.upto tuplesKnownSpec)

end Rows
end Go.Proofs.Ythdpagkadcbeiaa
