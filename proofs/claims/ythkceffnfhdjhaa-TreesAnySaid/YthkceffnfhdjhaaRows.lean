/-
  No cell of these rows narrows 'for every input' (looked for: loops, veiled, ifaces, maps, wideKeys, modest, calm, conditions, laid).
  DERIVED. THE GIVEN ROWS OF THIS SEAT. 5 by the template 'for every input the law returns true; each argument reads behind the call as it read before'; 0 by the template 'total and deterministic' (their statements: YthkceffnfhdjhaaTotals.lean).
  GIVEN WITH THE SEED: the statements are not yours to turn. If you find one false, say at which input.
  Laid BY PROGRAM, IN A SANDBOX (cutbox-rows.mjs): the forced cells as the released guide's own fill.sh prints them over the translation 3e4b80b5978aafa2… (all of the seat's roots in one cut). By AI agents, Wed Nov 11 2026. No macro, syntax, notation, axiom, sorry.
-/
import Derived.Test.YthkceffnfhdjhaaChecked
import GoSem.Claim
import GoSem.ClaimJoined
import GoSem.ClaimMapViews
import Derived.JoinedTies
import Derived.KernelRfl
namespace Go.Proofs.Ythkceffnfhdjhaa
/- THE CELL 'sum', in the pinned program and in every row, IS THE sha256 OF THE DUMP (.gsa) THAT YthkceffnfhdjhaaProg.lean LOADS. Nothing in Lean hashes anything: it is a label: what it is worth is what the hold of that sum in a sandbox is worth. -/
noncomputable def Try.pinned : Pinned := { name := "ythkceffnfhdjhaa", sum := "3e4b80b5978aafa20030651c49dcdc5cec1cb8ea25f3e55f5ee897a86a78f9a4", checked := Try.checked }
namespace Rows
def none {H : Type} : Left H := { results := [], args := [] }

/-- 'countersignlaw05.TreesPlay': WHATEVER THE INPUT: true; the input reads as it did. -/
def treesPlaySpec : ChangeSpec := { name := "treesPlay", fn := fun _ => fun
  | [d] => { results := [.lit (.bool true)], args := [d] }
  | _ => none }
def treesPlayRow : OpenClaim := { program := "ythkceffnfhdjhaa", sum := "3e4b80b5978aafa20030651c49dcdc5cec1cb8ea25f3e55f5ee897a86a78f9a4", func := "countersign/countersignlaw05.TreesPlay", spec := "treesPlay", unfollowed := true, recurses := true, apart := false }
def TreesPlaySaid : Prop := treesPlayRow.holds Try.pinned (OpenSpec.ofChange treesPlaySpec)

/-- ITS FALSE NEIGHBOUR: 'it returns false'. Refute it at one input. -/
def treesPlayWrong : ChangeSpec := { name := "treesPlay", fn := fun _ => fun
  | [d] => { results := [.lit (.bool false)], args := [d] }
  | _ => none }
def TreesPlayWrongFalsely : Prop := treesPlayRow.holds Try.pinned (OpenSpec.ofChange treesPlayWrong)

/-- 'countersignlaw05.TreesViews': WHATEVER THE INPUT: true; the input reads as it did. -/
def treesViewsSpec : ChangeSpec := { name := "treesViews", fn := fun _ => fun
  | [d1, d2, d3] => { results := [.lit (.bool true)], args := [d1, d2, d3] }
  | _ => none }
def treesViewsRow : OpenClaim := { program := "ythkceffnfhdjhaa", sum := "3e4b80b5978aafa20030651c49dcdc5cec1cb8ea25f3e55f5ee897a86a78f9a4", func := "countersign/countersignlaw05.TreesViews", spec := "treesViews", unfollowed := true, recurses := true, apart := false }
def TreesViewsSaid : Prop := treesViewsRow.holds Try.pinned (OpenSpec.ofChange treesViewsSpec)

/-- ITS FALSE NEIGHBOUR: 'it returns false'. Refute it at one input. -/
def treesViewsWrong : ChangeSpec := { name := "treesViews", fn := fun _ => fun
  | [d1, d2, d3] => { results := [.lit (.bool false)], args := [d1, d2, d3] }
  | _ => none }
def TreesViewsWrongFalsely : Prop := treesViewsRow.holds Try.pinned (OpenSpec.ofChange treesViewsWrong)

/-- 'countersignlaw05.TreesAny': WHATEVER THE INPUT: true; the input reads as it did. -/
def treesAnySpec : ChangeSpec := { name := "treesAny", fn := fun _ => fun
  | [d1, d2] => { results := [.lit (.bool true)], args := [d1, d2] }
  | _ => none }
def treesAnyRow : OpenClaim := { program := "ythkceffnfhdjhaa", sum := "3e4b80b5978aafa20030651c49dcdc5cec1cb8ea25f3e55f5ee897a86a78f9a4", func := "countersign/countersignlaw05.TreesAny", spec := "treesAny", unfollowed := true, recurses := true, apart := false }
def TreesAnySaid : Prop := treesAnyRow.holds Try.pinned (OpenSpec.ofChange treesAnySpec)

/-- ITS FALSE NEIGHBOUR: 'it returns false'. Refute it at one input. -/
def treesAnyWrong : ChangeSpec := { name := "treesAny", fn := fun _ => fun
  | [d1, d2] => { results := [.lit (.bool false)], args := [d1, d2] }
  | _ => none }
def TreesAnyWrongFalsely : Prop := treesAnyRow.holds Try.pinned (OpenSpec.ofChange treesAnyWrong)

/-- 'countersignlaw05.TreesNone': WHATEVER THE INPUT: true; the input reads as it did. -/
def treesNoneSpec : ChangeSpec := { name := "treesNone", fn := fun _ => fun
  | [d1, d2] => { results := [.lit (.bool true)], args := [d1, d2] }
  | _ => none }
def treesNoneRow : OpenClaim := { program := "ythkceffnfhdjhaa", sum := "3e4b80b5978aafa20030651c49dcdc5cec1cb8ea25f3e55f5ee897a86a78f9a4", func := "countersign/countersignlaw05.TreesNone", spec := "treesNone", unfollowed := true, recurses := true, apart := false }
def TreesNoneSaid : Prop := treesNoneRow.holds Try.pinned (OpenSpec.ofChange treesNoneSpec)

/-- ITS FALSE NEIGHBOUR: 'it returns false'. Refute it at one input. -/
def treesNoneWrong : ChangeSpec := { name := "treesNone", fn := fun _ => fun
  | [d1, d2] => { results := [.lit (.bool false)], args := [d1, d2] }
  | _ => none }
def TreesNoneWrongFalsely : Prop := treesNoneRow.holds Try.pinned (OpenSpec.ofChange treesNoneWrong)

/-- 'countersignlaw05.TreesKnown': WHATEVER THE INPUT: true; the input reads as it did. -/
def treesKnownSpec : ChangeSpec := { name := "treesKnown", fn := fun _ => fun
  | [] => { results := [.lit (.bool true)], args := [] }
  | _ => none }
def treesKnownRow : OpenClaim := { program := "ythkceffnfhdjhaa", sum := "3e4b80b5978aafa20030651c49dcdc5cec1cb8ea25f3e55f5ee897a86a78f9a4", func := "countersign/countersignlaw05.TreesKnown", spec := "treesKnown", unfollowed := true, recurses := true, apart := false }
def TreesKnownSaid : Prop := treesKnownRow.holds Try.pinned (OpenSpec.ofChange treesKnownSpec)

/-- ITS FALSE NEIGHBOUR: 'it returns false'. Refute it at one input. -/
def treesKnownWrong : ChangeSpec := { name := "treesKnown", fn := fun _ => fun
  | [] => { results := [.lit (.bool false)], args := [] }
  | _ => none }
def TreesKnownWrongFalsely : Prop := treesKnownRow.holds Try.pinned (OpenSpec.ofChange treesKnownWrong)

/- THE SECOND FORM. 'bulk': how many values and letters a reading holds, each counted each time it is reached (what is shared counts as often as it is met; a slice's spare places count too). A statement '..UptoSaid' is the law's where the arguments, and the package variables that the reading takes, are together of bulk at most 1048576: NARROWER than '..Said'. Prove '..Said' where nothing that the law and all that it calls make is longer than what came in: it says more and counts as full. Else prove '..UptoSaid'. A law counts once. -/
mutual
def uptoBulk {H : Type} : DataW H → Nat
  | .lit (.string bytes) => bytes.length + 1
  | .lit _ => 1
  | .nil => 1
  | .ptr d => uptoBulk d + 1
  | .slice elems spare => uptoBulkAll elems + uptoBulkAll spare + 1
  | .agg parts => uptoBulkAll parts + 1
  | .iface _ d => uptoBulk d + 1
  | .map entries => uptoBulkEntries entries + 1
  | .held _ => 1
def uptoBulkAll {H : Type} : List (DataW H) → Nat
  | [] => 0
  | d :: r => uptoBulk d + uptoBulkAll r
def uptoBulkEntries {H : Type} : List (Lit × DataW H) → Nat
  | [] => 0
  | x :: r => uptoBulkEntry x + uptoBulkEntries r
def uptoBulkEntry {H : Type} : Lit × DataW H → Nat
  | (.string bytes, d) => bytes.length + uptoBulk d + 1
  | (_, d) => uptoBulk d + 1
 end
def uptoSmall : (H : Type) → List (DataW H) → Bool := fun _ ds => decide (uptoBulkAll ds ≤ 1048576)
def OpenSpec.upto (s : _root_.Go.ChangeSpec) : _root_.Go.OpenSpec := { _root_.Go.OpenSpec.ofChange s with cond := some uptoSmall }

/-- 'countersignlaw05.TreesPlay', WHERE WHAT IT READS IS OF BULK AT MOST 1048576: true; the input reads as it did. -/
def treesPlayUptoRow : OpenClaim := { program := "ythkceffnfhdjhaa", sum := "3e4b80b5978aafa20030651c49dcdc5cec1cb8ea25f3e55f5ee897a86a78f9a4", func := "countersign/countersignlaw05.TreesPlay", spec := "treesPlay", unfollowed := true, recurses := true, apart := false, narrowed := true }
def TreesPlayUptoSaid : Prop := treesPlayUptoRow.holds Try.pinned (OpenSpec.upto treesPlaySpec)

/-- 'countersignlaw05.TreesViews', WHERE WHAT IT READS IS OF BULK AT MOST 1048576: true; the input reads as it did. -/
def treesViewsUptoRow : OpenClaim := { program := "ythkceffnfhdjhaa", sum := "3e4b80b5978aafa20030651c49dcdc5cec1cb8ea25f3e55f5ee897a86a78f9a4", func := "countersign/countersignlaw05.TreesViews", spec := "treesViews", unfollowed := true, recurses := true, apart := false, narrowed := true }
def TreesViewsUptoSaid : Prop := treesViewsUptoRow.holds Try.pinned (OpenSpec.upto treesViewsSpec)

/-- 'countersignlaw05.TreesAny', WHERE WHAT IT READS IS OF BULK AT MOST 1048576: true; the input reads as it did. -/
def treesAnyUptoRow : OpenClaim := { program := "ythkceffnfhdjhaa", sum := "3e4b80b5978aafa20030651c49dcdc5cec1cb8ea25f3e55f5ee897a86a78f9a4", func := "countersign/countersignlaw05.TreesAny", spec := "treesAny", unfollowed := true, recurses := true, apart := false, narrowed := true }
def TreesAnyUptoSaid : Prop := treesAnyUptoRow.holds Try.pinned (OpenSpec.upto treesAnySpec)

/-- 'countersignlaw05.TreesNone', WHERE WHAT IT READS IS OF BULK AT MOST 1048576: true; the input reads as it did. -/
def treesNoneUptoRow : OpenClaim := { program := "ythkceffnfhdjhaa", sum := "3e4b80b5978aafa20030651c49dcdc5cec1cb8ea25f3e55f5ee897a86a78f9a4", func := "countersign/countersignlaw05.TreesNone", spec := "treesNone", unfollowed := true, recurses := true, apart := false, narrowed := true }
def TreesNoneUptoSaid : Prop := treesNoneUptoRow.holds Try.pinned (OpenSpec.upto treesNoneSpec)

/-- 'countersignlaw05.TreesKnown', WHERE WHAT IT READS IS OF BULK AT MOST 1048576: true; the input reads as it did. -/
def treesKnownUptoRow : OpenClaim := { program := "ythkceffnfhdjhaa", sum := "3e4b80b5978aafa20030651c49dcdc5cec1cb8ea25f3e55f5ee897a86a78f9a4", func := "countersign/countersignlaw05.TreesKnown", spec := "treesKnown", unfollowed := true, recurses := true, apart := false, narrowed := true }
def TreesKnownUptoSaid : Prop := treesKnownUptoRow.holds Try.pinned (OpenSpec.upto treesKnownSpec)

end Rows
end Go.Proofs.Ythkceffnfhdjhaa
