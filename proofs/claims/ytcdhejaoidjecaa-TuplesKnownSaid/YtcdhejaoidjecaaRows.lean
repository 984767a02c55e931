/-
  No cell of these rows narrows 'for every input' (looked for: loops, veiled, ifaces, maps, wideKeys, modest, calm, conditions, laid).
  DERIVED. THE GIVEN ROWS OF THIS SEAT. 4 by the template 'for every input the law returns true; each argument reads behind the call as it read before'; 0 by the template 'total and deterministic' (their statements: YtcdhejaoidjecaaTotals.lean).
  GIVEN WITH THE SEED: the statements are not yours to turn. If you find one false, say at which input.
  Laid BY PROGRAM, IN A SANDBOX (cutbox-rows.mjs): the forced cells as the released guide's own fill.sh prints them over the translation 35095a10bf34627c… (all of the seat's roots in one cut). By AI agents, Wed Nov 11 2026. No macro, syntax, notation, axiom, sorry.
-/
import Derived.Test.YtcdhejaoidjecaaChecked
import GoSem.Claim
import GoSem.ClaimJoined
import GoSem.ClaimMapViews
import Derived.JoinedTies
import Derived.KernelRfl
namespace Go.Proofs.Ytcdhejaoidjecaa
/- THE CELL 'sum', in the pinned program and in every row, IS THE sha256 OF THE DUMP (.gsa) THAT YtcdhejaoidjecaaProg.lean LOADS. Nothing in Lean hashes anything: it is a label: what it is worth is what the hold of that sum in a sandbox is worth. -/
noncomputable def Try.pinned : Pinned := { name := "ytcdhejaoidjecaa", sum := "35095a10bf34627cc481d8d65174ae26d72e56764c109f937dcc65f23228a3b3", checked := Try.checked }
namespace Rows
def none {H : Type} : Left H := { results := [], args := [] }

/-- 'countersignlaw02.TuplesKnown': WHATEVER THE INPUT: true; the input reads as it did. -/
def tuplesKnownSpec : ChangeSpec := { name := "tuplesKnown", fn := fun _ => fun
  | [] => { results := [.lit (.bool true)], args := [] }
  | _ => none }
def tuplesKnownRow : OpenClaim := { program := "ytcdhejaoidjecaa", sum := "35095a10bf34627cc481d8d65174ae26d72e56764c109f937dcc65f23228a3b3", func := "countersign/countersignlaw02.TuplesKnown", spec := "tuplesKnown", inPlace := ["internal/bytealg.abigen_runtime_cmpstring", "internal/bytealg.IndexByteString", "internal/bytealg.IndexString", "internal/bytealg.CountString"], unfollowed := true, recurses := true, named := ["internal/bytealg.MaxLen"], apart := false }
def TuplesKnownSaid : Prop := tuplesKnownRow.holds Try.pinned (OpenSpec.ofChange tuplesKnownSpec)

/-- ITS FALSE NEIGHBOUR: 'it returns false'. Refute it at one input. -/
def tuplesKnownWrong : ChangeSpec := { name := "tuplesKnown", fn := fun _ => fun
  | [] => { results := [.lit (.bool false)], args := [] }
  | _ => none }
def TuplesKnownWrongFalsely : Prop := tuplesKnownRow.holds Try.pinned (OpenSpec.ofChange tuplesKnownWrong)

/-- 'countersignlaw03.FiltersBoth': WHATEVER THE INPUT: true; the input reads as it did. -/
def filtersBothSpec : ChangeSpec := { name := "filtersBoth", fn := fun _ => fun
  | [d1, d2, d3] => { results := [.lit (.bool true)], args := [d1, d2, d3] }
  | _ => none }
def filtersBothRow : OpenClaim := { program := "ytcdhejaoidjecaa", sum := "35095a10bf34627cc481d8d65174ae26d72e56764c109f937dcc65f23228a3b3", func := "countersign/countersignlaw03.FiltersBoth", spec := "filtersBoth", inPlace := ["internal/bytealg.IndexByteString", "internal/bytealg.IndexString", "internal/bytealg.CountString", "internal/bytealg.abigen_runtime_cmpstring"], unfollowed := true, recurses := true, named := ["internal/bytealg.MaxLen"], apart := false }
def FiltersBothSaid : Prop := filtersBothRow.holds Try.pinned (OpenSpec.ofChange filtersBothSpec)

/-- ITS FALSE NEIGHBOUR: 'it returns false'. Refute it at one input. -/
def filtersBothWrong : ChangeSpec := { name := "filtersBoth", fn := fun _ => fun
  | [d1, d2, d3] => { results := [.lit (.bool false)], args := [d1, d2, d3] }
  | _ => none }
def FiltersBothWrongFalsely : Prop := filtersBothRow.holds Try.pinned (OpenSpec.ofChange filtersBothWrong)

/-- 'countersignlaw03.FiltersErrors': WHATEVER THE INPUT: true; the input reads as it did. -/
def filtersErrorsSpec : ChangeSpec := { name := "filtersErrors", fn := fun _ => fun
  | [d1, d2, d3] => { results := [.lit (.bool true)], args := [d1, d2, d3] }
  | _ => none }
def filtersErrorsRow : OpenClaim := { program := "ytcdhejaoidjecaa", sum := "35095a10bf34627cc481d8d65174ae26d72e56764c109f937dcc65f23228a3b3", func := "countersign/countersignlaw03.FiltersErrors", spec := "filtersErrors", inPlace := ["internal/bytealg.IndexByteString", "internal/bytealg.IndexString", "internal/bytealg.CountString", "internal/bytealg.abigen_runtime_cmpstring"], unfollowed := true, recurses := true, named := ["internal/bytealg.MaxLen"], apart := false }
def FiltersErrorsSaid : Prop := filtersErrorsRow.holds Try.pinned (OpenSpec.ofChange filtersErrorsSpec)

/-- ITS FALSE NEIGHBOUR: 'it returns false'. Refute it at one input. -/
def filtersErrorsWrong : ChangeSpec := { name := "filtersErrors", fn := fun _ => fun
  | [d1, d2, d3] => { results := [.lit (.bool false)], args := [d1, d2, d3] }
  | _ => none }
def FiltersErrorsWrongFalsely : Prop := filtersErrorsRow.holds Try.pinned (OpenSpec.ofChange filtersErrorsWrong)

/-- 'countersignlaw03.FiltersKnown': WHATEVER THE INPUT: true; the input reads as it did. -/
def filtersKnownSpec : ChangeSpec := { name := "filtersKnown", fn := fun _ => fun
  | [] => { results := [.lit (.bool true)], args := [] }
  | _ => none }
def filtersKnownRow : OpenClaim := { program := "ytcdhejaoidjecaa", sum := "35095a10bf34627cc481d8d65174ae26d72e56764c109f937dcc65f23228a3b3", func := "countersign/countersignlaw03.FiltersKnown", spec := "filtersKnown", inPlace := ["internal/bytealg.IndexByteString", "internal/bytealg.IndexString", "internal/bytealg.CountString", "internal/bytealg.abigen_runtime_cmpstring"], unfollowed := true, recurses := true, named := ["internal/bytealg.MaxLen"], apart := false }
def FiltersKnownSaid : Prop := filtersKnownRow.holds Try.pinned (OpenSpec.ofChange filtersKnownSpec)

/-- ITS FALSE NEIGHBOUR: 'it returns false'. Refute it at one input. -/
def filtersKnownWrong : ChangeSpec := { name := "filtersKnown", fn := fun _ => fun
  | [] => { results := [.lit (.bool false)], args := [] }
  | _ => none }
def FiltersKnownWrongFalsely : Prop := filtersKnownRow.holds Try.pinned (OpenSpec.ofChange filtersKnownWrong)

/- THE SECOND FORM. 'bulk': how many values and letters a reading holds, each counted each time it is reached (what is shared counts as often as it is met; a slice's spare places count too). A statement '..UptoSaid' is the law's where the arguments, and the package variables that the reading takes, are together of bulk at most 1048576: NARROWER than '..Said'. Prove '..Said' where nothing that the law and all that it calls make is longer than what came in: it says more and counts as full. Else prove '..UptoSaid'. A law counts once. -/
mutual
def uptoBulk {H : Type} : DataW H → Nat
  | .lit (.string bytes) => bytes.length + 1
  | .lit _ => 1
  | .nil => 1
  | .ptr d => uptoBulk d + 1
  | .slice elems spare => uptoBulkAll elems + uptoBulkAll spare + 1
  | .agg parts => uptoBulkAll parts + 1
  | .iface _ d => uptoBulk d + 1
  | .map entries => uptoBulkEntries entries + 1
  | .held _ => 1
def uptoBulkAll {H : Type} : List (DataW H) → Nat
  | [] => 0
  | d :: r => uptoBulk d + uptoBulkAll r
def uptoBulkEntries {H : Type} : List (Lit × DataW H) → Nat
  | [] => 0
  | x :: r => uptoBulkEntry x + uptoBulkEntries r
def uptoBulkEntry {H : Type} : Lit × DataW H → Nat
  | (.string bytes, d) => bytes.length + uptoBulk d + 1
  | (_, d) => uptoBulk d + 1
 end
def uptoSmall : (H : Type) → List (DataW H) → Bool := fun _ ds => decide (uptoBulkAll ds ≤ 1048576)
def OpenSpec.upto (s : _root_.Go.ChangeSpec) : _root_.Go.OpenSpec := { _root_.Go.OpenSpec.ofChange s with cond := some uptoSmall }

/-- 'countersignlaw02.TuplesKnown', WHERE WHAT IT READS IS OF BULK AT MOST 1048576: true; the input reads as it did. -/
def tuplesKnownUptoRow : OpenClaim := { program := "ytcdhejaoidjecaa", sum := "35095a10bf34627cc481d8d65174ae26d72e56764c109f937dcc65f23228a3b3", func := "countersign/countersignlaw02.TuplesKnown", spec := "tuplesKnown", inPlace := ["internal/bytealg.abigen_runtime_cmpstring", "internal/bytealg.IndexByteString", "internal/bytealg.IndexString", "internal/bytealg.CountString"], unfollowed := true, recurses := true, named := ["internal/bytealg.MaxLen"], apart := false, narrowed := true }
def TuplesKnownUptoSaid : Prop := tuplesKnownUptoRow.holds Try.pinned (OpenSpec.upto tuplesKnownSpec)

/-- 'countersignlaw03.FiltersBoth', WHERE WHAT IT READS IS OF BULK AT MOST 1048576: true; the input reads as it did. -/
def filtersBothUptoRow : OpenClaim := { program := "ytcdhejaoidjecaa", sum := "35095a10bf34627cc481d8d65174ae26d72e56764c109f937dcc65f23228a3b3", func := "countersign/countersignlaw03.FiltersBoth", spec := "filtersBoth", inPlace := ["internal/bytealg.IndexByteString", "internal/bytealg.IndexString", "internal/bytealg.CountString", "internal/bytealg.abigen_runtime_cmpstring"], unfollowed := true, recurses := true, named := ["internal/bytealg.MaxLen"], apart := false, narrowed := true }
def FiltersBothUptoSaid : Prop := filtersBothUptoRow.holds Try.pinned (OpenSpec.upto filtersBothSpec)

/-- 'countersignlaw03.FiltersErrors', WHERE WHAT IT READS IS OF BULK AT MOST 1048576: true; the input reads as it did. -/
def filtersErrorsUptoRow : OpenClaim := { program := "ytcdhejaoidjecaa", sum := "35095a10bf34627cc481d8d65174ae26d72e56764c109f937dcc65f23228a3b3", func := "countersign/countersignlaw03.FiltersErrors", spec := "filtersErrors", inPlace := ["internal/bytealg.IndexByteString", "internal/bytealg.IndexString", "internal/bytealg.CountString", "internal/bytealg.abigen_runtime_cmpstring"], unfollowed := true, recurses := true, named := ["internal/bytealg.MaxLen"], apart := false, narrowed := true }
def FiltersErrorsUptoSaid : Prop := filtersErrorsUptoRow.holds Try.pinned (OpenSpec.upto filtersErrorsSpec)

/-- 'countersignlaw03.FiltersKnown', WHERE WHAT IT READS IS OF BULK AT MOST 1048576: true; the input reads as it did. -/
def filtersKnownUptoRow : OpenClaim := { program := "ytcdhejaoidjecaa", sum := "35095a10bf34627cc481d8d65174ae26d72e56764c109f937dcc65f23228a3b3", func := "countersign/countersignlaw03.FiltersKnown", spec := "filtersKnown", inPlace := ["internal/bytealg.IndexByteString", "internal/bytealg.IndexString", "internal/bytealg.CountString", "internal/bytealg.abigen_runtime_cmpstring"], unfollowed := true, recurses := true, named := ["internal/bytealg.MaxLen"], apart := false, narrowed := true }
def FiltersKnownUptoSaid : Prop := filtersKnownUptoRow.holds Try.pinned (OpenSpec.upto filtersKnownSpec)

end Rows
end Go.Proofs.Ytcdhejaoidjecaa
