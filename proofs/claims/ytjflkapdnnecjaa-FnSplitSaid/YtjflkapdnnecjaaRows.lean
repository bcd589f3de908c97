/-
  No cell of these rows narrows 'for every input' (looked for: loops, veiled, ifaces, maps, wideKeys, modest, calm, conditions, laid).
  DERIVED. THE GIVEN ROWS OF THIS SEAT. 9 by the template 'for every input the law returns true; each argument reads behind the call as it read before'; 0 by the template 'total and deterministic' (their statements: YtjflkapdnnecjaaTotals.lean).
  GIVEN WITH THE SEED: the statements are not yours to turn. If you find one false, say at which input.
  Laid BY PROGRAM, IN A SANDBOX (cutbox-rows.mjs): the forced cells as the released guide's own fill.sh prints them over the translation a7c6f0e05dc109a3… (all of the seat's roots in one cut). By AI agents, Wed Nov 11 2026. No macro, syntax, notation, axiom, sorry.
-/
import Derived.Test.YtjflkapdnnecjaaChecked
import GoSem.Claim
import GoSem.ClaimJoined
import GoSem.ClaimMapViews
import Derived.JoinedTies
import Derived.KernelRfl
namespace Go.Proofs.Ytjflkapdnnecjaa
/- THE CELL 'sum', in the pinned program and in every row, IS THE sha256 OF THE DUMP (.gsa) THAT YtjflkapdnnecjaaProg.lean LOADS. Nothing in Lean hashes anything: it is a label: what it is worth is what the hold of that sum in a sandbox is worth. -/
noncomputable def Try.pinned : Pinned := { name := "ytjflkapdnnecjaa", sum := "a7c6f0e05dc109a31fe121bb861e3dd92e0f737a1658da0d9a88e900f12b60c2", checked := Try.checked }
namespace Rows
def none {H : Type} : Left H := { results := [], args := [] }

/-- 'laws.FnSplit': WHATEVER THE INPUT: true; the input reads as it did. -/
def fnSplitSpec : ChangeSpec := { name := "fnSplit", fn := fun _ => fun
  | [d] => { results := [.lit (.bool true)], args := [d] }
  | _ => none }
def fnSplitRow : OpenClaim := { program := "ytjflkapdnnecjaa", sum := "a7c6f0e05dc109a31fe121bb861e3dd92e0f737a1658da0d9a88e900f12b60c2", func := "loop.example/g00809/laws.FnSplit", spec := "fnSplit", unfollowed := true, recurses := true, apart := false }
def FnSplitSaid : Prop := fnSplitRow.holds Try.pinned (OpenSpec.ofChange fnSplitSpec)

/-- ITS FALSE NEIGHBOUR: 'it returns false'. Refute it at one input. -/
def fnSplitWrong : ChangeSpec := { name := "fnSplit", fn := fun _ => fun
  | [d] => { results := [.lit (.bool false)], args := [d] }
  | _ => none }
def FnSplitWrongFalsely : Prop := fnSplitRow.holds Try.pinned (OpenSpec.ofChange fnSplitWrong)

/-- 'laws.FnExactIsValidPatch': WHATEVER THE INPUT: true; the input reads as it did. -/
def fnExactIsValidPatchSpec : ChangeSpec := { name := "fnExactIsValidPatch", fn := fun _ => fun
  | [d] => { results := [.lit (.bool true)], args := [d] }
  | _ => none }
def fnExactIsValidPatchRow : OpenClaim := { program := "ytjflkapdnnecjaa", sum := "a7c6f0e05dc109a31fe121bb861e3dd92e0f737a1658da0d9a88e900f12b60c2", func := "loop.example/g00809/laws.FnExactIsValidPatch", spec := "fnExactIsValidPatch", apart := false }
def FnExactIsValidPatchSaid : Prop := fnExactIsValidPatchRow.holds Try.pinned (OpenSpec.ofChange fnExactIsValidPatchSpec)

/-- ITS FALSE NEIGHBOUR: 'it returns false'. Refute it at one input. -/
def fnExactIsValidPatchWrong : ChangeSpec := { name := "fnExactIsValidPatch", fn := fun _ => fun
  | [d] => { results := [.lit (.bool false)], args := [d] }
  | _ => none }
def FnExactIsValidPatchWrongFalsely : Prop := fnExactIsValidPatchRow.holds Try.pinned (OpenSpec.ofChange fnExactIsValidPatchWrong)

/-- 'laws.FnExactEvalPatch': WHATEVER THE INPUT: true; the input reads as it did. -/
def fnExactEvalPatchSpec : ChangeSpec := { name := "fnExactEvalPatch", fn := fun _ => fun
  | [d1, d2, d3, d4] => { results := [.lit (.bool true)], args := [d1, d2, d3, d4] }
  | _ => none }
def fnExactEvalPatchRow : OpenClaim := { program := "ytjflkapdnnecjaa", sum := "a7c6f0e05dc109a31fe121bb861e3dd92e0f737a1658da0d9a88e900f12b60c2", func := "loop.example/g00809/laws.FnExactEvalPatch", spec := "fnExactEvalPatch", apart := false }
def FnExactEvalPatchSaid : Prop := fnExactEvalPatchRow.holds Try.pinned (OpenSpec.ofChange fnExactEvalPatchSpec)

/-- ITS FALSE NEIGHBOUR: 'it returns false'. Refute it at one input. -/
def fnExactEvalPatchWrong : ChangeSpec := { name := "fnExactEvalPatch", fn := fun _ => fun
  | [d1, d2, d3, d4] => { results := [.lit (.bool false)], args := [d1, d2, d3, d4] }
  | _ => none }
def FnExactEvalPatchWrongFalsely : Prop := fnExactEvalPatchRow.holds Try.pinned (OpenSpec.ofChange fnExactEvalPatchWrong)

/-- 'laws.FnExactEvalEdge': WHATEVER THE INPUT: true; the input reads as it did. -/
def fnExactEvalEdgeSpec : ChangeSpec := { name := "fnExactEvalEdge", fn := fun _ => fun
  | [d1, d2, d3, d4] => { results := [.lit (.bool true)], args := [d1, d2, d3, d4] }
  | _ => none }
def fnExactEvalEdgeRow : OpenClaim := { program := "ytjflkapdnnecjaa", sum := "a7c6f0e05dc109a31fe121bb861e3dd92e0f737a1658da0d9a88e900f12b60c2", func := "loop.example/g00809/laws.FnExactEvalEdge", spec := "fnExactEvalEdge", apart := false }
def FnExactEvalEdgeSaid : Prop := fnExactEvalEdgeRow.holds Try.pinned (OpenSpec.ofChange fnExactEvalEdgeSpec)

/-- ITS FALSE NEIGHBOUR: 'it returns false'. Refute it at one input. -/
def fnExactEvalEdgeWrong : ChangeSpec := { name := "fnExactEvalEdge", fn := fun _ => fun
  | [d1, d2, d3, d4] => { results := [.lit (.bool false)], args := [d1, d2, d3, d4] }
  | _ => none }
def FnExactEvalEdgeWrongFalsely : Prop := fnExactEvalEdgeRow.holds Try.pinned (OpenSpec.ofChange fnExactEvalEdgeWrong)

/-- 'laws.FnExactIsValidSubPatch': WHATEVER THE INPUT: true; the input reads as it did. -/
def fnExactIsValidSubPatchSpec : ChangeSpec := { name := "fnExactIsValidSubPatch", fn := fun _ => fun
  | [d] => { results := [.lit (.bool true)], args := [d] }
  | _ => none }
def fnExactIsValidSubPatchRow : OpenClaim := { program := "ytjflkapdnnecjaa", sum := "a7c6f0e05dc109a31fe121bb861e3dd92e0f737a1658da0d9a88e900f12b60c2", func := "loop.example/g00809/laws.FnExactIsValidSubPatch", spec := "fnExactIsValidSubPatch", apart := false }
def FnExactIsValidSubPatchSaid : Prop := fnExactIsValidSubPatchRow.holds Try.pinned (OpenSpec.ofChange fnExactIsValidSubPatchSpec)

/-- ITS FALSE NEIGHBOUR: 'it returns false'. Refute it at one input. -/
def fnExactIsValidSubPatchWrong : ChangeSpec := { name := "fnExactIsValidSubPatch", fn := fun _ => fun
  | [d] => { results := [.lit (.bool false)], args := [d] }
  | _ => none }
def FnExactIsValidSubPatchWrongFalsely : Prop := fnExactIsValidSubPatchRow.holds Try.pinned (OpenSpec.ofChange fnExactIsValidSubPatchWrong)

/-- 'laws.FnExactSplitSubPatch': WHATEVER THE INPUT: true; the input reads as it did. -/
def fnExactSplitSubPatchSpec : ChangeSpec := { name := "fnExactSplitSubPatch", fn := fun _ => fun
  | [d] => { results := [.lit (.bool true)], args := [d] }
  | _ => none }
def fnExactSplitSubPatchRow : OpenClaim := { program := "ytjflkapdnnecjaa", sum := "a7c6f0e05dc109a31fe121bb861e3dd92e0f737a1658da0d9a88e900f12b60c2", func := "loop.example/g00809/laws.FnExactSplitSubPatch", spec := "fnExactSplitSubPatch", unfollowed := true, recurses := true, apart := false }
def FnExactSplitSubPatchSaid : Prop := fnExactSplitSubPatchRow.holds Try.pinned (OpenSpec.ofChange fnExactSplitSubPatchSpec)

/-- ITS FALSE NEIGHBOUR: 'it returns false'. Refute it at one input. -/
def fnExactSplitSubPatchWrong : ChangeSpec := { name := "fnExactSplitSubPatch", fn := fun _ => fun
  | [d] => { results := [.lit (.bool false)], args := [d] }
  | _ => none }
def FnExactSplitSubPatchWrongFalsely : Prop := fnExactSplitSubPatchRow.holds Try.pinned (OpenSpec.ofChange fnExactSplitSubPatchWrong)

/-- 'laws.FnExactEvalSubPatch': WHATEVER THE INPUT: true; the input reads as it did. -/
def fnExactEvalSubPatchSpec : ChangeSpec := { name := "fnExactEvalSubPatch", fn := fun _ => fun
  | [d1, d2, d3, d4, d5] => { results := [.lit (.bool true)], args := [d1, d2, d3, d4, d5] }
  | _ => none }
def fnExactEvalSubPatchRow : OpenClaim := { program := "ytjflkapdnnecjaa", sum := "a7c6f0e05dc109a31fe121bb861e3dd92e0f737a1658da0d9a88e900f12b60c2", func := "loop.example/g00809/laws.FnExactEvalSubPatch", spec := "fnExactEvalSubPatch", apart := false }
def FnExactEvalSubPatchSaid : Prop := fnExactEvalSubPatchRow.holds Try.pinned (OpenSpec.ofChange fnExactEvalSubPatchSpec)

/-- ITS FALSE NEIGHBOUR: 'it returns false'. Refute it at one input. -/
def fnExactEvalSubPatchWrong : ChangeSpec := { name := "fnExactEvalSubPatch", fn := fun _ => fun
  | [d1, d2, d3, d4, d5] => { results := [.lit (.bool false)], args := [d1, d2, d3, d4, d5] }
  | _ => none }
def FnExactEvalSubPatchWrongFalsely : Prop := fnExactEvalSubPatchRow.holds Try.pinned (OpenSpec.ofChange fnExactEvalSubPatchWrong)

/-- 'laws.FnExactTransformPatch': WHATEVER THE INPUT: true; the input reads as it did. -/
def fnExactTransformPatchSpec : ChangeSpec := { name := "fnExactTransformPatch", fn := fun _ => fun
  | [d1, d2] => { results := [.lit (.bool true)], args := [d1, d2] }
  | _ => none }
def fnExactTransformPatchRow : OpenClaim := { program := "ytjflkapdnnecjaa", sum := "a7c6f0e05dc109a31fe121bb861e3dd92e0f737a1658da0d9a88e900f12b60c2", func := "loop.example/g00809/laws.FnExactTransformPatch", spec := "fnExactTransformPatch", apart := false }
def FnExactTransformPatchSaid : Prop := fnExactTransformPatchRow.holds Try.pinned (OpenSpec.ofChange fnExactTransformPatchSpec)

/-- ITS FALSE NEIGHBOUR: 'it returns false'. Refute it at one input. -/
def fnExactTransformPatchWrong : ChangeSpec := { name := "fnExactTransformPatch", fn := fun _ => fun
  | [d1, d2] => { results := [.lit (.bool false)], args := [d1, d2] }
  | _ => none }
def FnExactTransformPatchWrongFalsely : Prop := fnExactTransformPatchRow.holds Try.pinned (OpenSpec.ofChange fnExactTransformPatchWrong)

/-- 'laws.FnExactPatchBounds': WHATEVER THE INPUT: true; the input reads as it did. -/
def fnExactPatchBoundsSpec : ChangeSpec := { name := "fnExactPatchBounds", fn := fun _ => fun
  | [d] => { results := [.lit (.bool true)], args := [d] }
  | _ => none }
def fnExactPatchBoundsRow : OpenClaim := { program := "ytjflkapdnnecjaa", sum := "a7c6f0e05dc109a31fe121bb861e3dd92e0f737a1658da0d9a88e900f12b60c2", func := "loop.example/g00809/laws.FnExactPatchBounds", spec := "fnExactPatchBounds", apart := false }
def FnExactPatchBoundsSaid : Prop := fnExactPatchBoundsRow.holds Try.pinned (OpenSpec.ofChange fnExactPatchBoundsSpec)

/-- ITS FALSE NEIGHBOUR: 'it returns false'. Refute it at one input. -/
def fnExactPatchBoundsWrong : ChangeSpec := { name := "fnExactPatchBounds", fn := fun _ => fun
  | [d] => { results := [.lit (.bool false)], args := [d] }
  | _ => none }
def FnExactPatchBoundsWrongFalsely : Prop := fnExactPatchBoundsRow.holds Try.pinned (OpenSpec.ofChange fnExactPatchBoundsWrong)

/- THE SECOND FORM. 'bulk': how many values and letters a reading holds, each counted each time it is reached (what is shared counts as often as it is met; a slice's spare places count too). A statement '..UptoSaid' is the law's where the arguments, and the package variables that the reading takes, are together of bulk at most 1048576: NARROWER than '..Said'. Prove '..Said' where nothing that the law and all that it calls make is longer than what came in: it says more and counts as full. Else prove '..UptoSaid'. A law counts once. -/
mutual
def uptoBulk {H : Type} : DataW H → Nat
  | .lit (.string bytes) => bytes.length + 1
  | .lit _ => 1
  | .nil => 1
  | .ptr d => uptoBulk d + 1
  | .slice elems spare => uptoBulkAll elems + uptoBulkAll spare + 1
  | .agg parts => uptoBulkAll parts + 1
  | .iface _ d => uptoBulk d + 1
  | .map entries => uptoBulkEntries entries + 1
  | .held _ => 1
def uptoBulkAll {H : Type} : List (DataW H) → Nat
  | [] => 0
  | d :: r => uptoBulk d + uptoBulkAll r
def uptoBulkEntries {H : Type} : List (Lit × DataW H) → Nat
  | [] => 0
  | x :: r => uptoBulkEntry x + uptoBulkEntries r
def uptoBulkEntry {H : Type} : Lit × DataW H → Nat
  | (.string bytes, d) => bytes.length + uptoBulk d + 1
  | (_, d) => uptoBulk d + 1
 end
def uptoSmall : (H : Type) → List (DataW H) → Bool := fun _ ds => decide (uptoBulkAll ds ≤ 1048576)
def OpenSpec.upto (s : _root_.Go.ChangeSpec) : _root_.Go.OpenSpec := { _root_.Go.OpenSpec.ofChange s with cond := some uptoSmall }

/-- 'laws.FnSplit', WHERE WHAT IT READS IS OF BULK AT MOST 1048576: true; the input reads as it did. -/
def fnSplitUptoRow : OpenClaim := { program := "ytjflkapdnnecjaa", sum := "a7c6f0e05dc109a31fe121bb861e3dd92e0f737a1658da0d9a88e900f12b60c2", func := "loop.example/g00809/laws.FnSplit", spec := "fnSplit", unfollowed := true, recurses := true, apart := false, narrowed := true }
def FnSplitUptoSaid : Prop := fnSplitUptoRow.holds Try.pinned (OpenSpec.upto fnSplitSpec)

/-- 'laws.FnExactIsValidPatch', WHERE WHAT IT READS IS OF BULK AT MOST 1048576: true; the input reads as it did. -/
def fnExactIsValidPatchUptoRow : OpenClaim := { program := "ytjflkapdnnecjaa", sum := "a7c6f0e05dc109a31fe121bb861e3dd92e0f737a1658da0d9a88e900f12b60c2", func := "loop.example/g00809/laws.FnExactIsValidPatch", spec := "fnExactIsValidPatch", apart := false, narrowed := true }
def FnExactIsValidPatchUptoSaid : Prop := fnExactIsValidPatchUptoRow.holds Try.pinned (OpenSpec.upto fnExactIsValidPatchSpec)

/-- 'laws.FnExactEvalPatch', WHERE WHAT IT READS IS OF BULK AT MOST 1048576: true; the input reads as it did. -/
def fnExactEvalPatchUptoRow : OpenClaim := { program := "ytjflkapdnnecjaa", sum := "a7c6f0e05dc109a31fe121bb861e3dd92e0f737a1658da0d9a88e900f12b60c2", func := "loop.example/g00809/laws.FnExactEvalPatch", spec := "fnExactEvalPatch", apart := false, narrowed := true }
def FnExactEvalPatchUptoSaid : Prop := fnExactEvalPatchUptoRow.holds Try.pinned (OpenSpec.upto fnExactEvalPatchSpec)

/-- 'laws.FnExactEvalEdge', WHERE WHAT IT READS IS OF BULK AT MOST 1048576: true; the input reads as it did. -/
def fnExactEvalEdgeUptoRow : OpenClaim := { program := "ytjflkapdnnecjaa", sum := "a7c6f0e05dc109a31fe121bb861e3dd92e0f737a1658da0d9a88e900f12b60c2", func := "loop.example/g00809/laws.FnExactEvalEdge", spec := "fnExactEvalEdge", apart := false, narrowed := true }
def FnExactEvalEdgeUptoSaid : Prop := fnExactEvalEdgeUptoRow.holds Try.pinned (OpenSpec.upto fnExactEvalEdgeSpec)

/-- 'laws.FnExactIsValidSubPatch', WHERE WHAT IT READS IS OF BULK AT MOST 1048576: true; the input reads as it did. -/
def fnExactIsValidSubPatchUptoRow : OpenClaim := { program := "ytjflkapdnnecjaa", sum := "a7c6f0e05dc109a31fe121bb861e3dd92e0f737a1658da0d9a88e900f12b60c2", func := "loop.example/g00809/laws.FnExactIsValidSubPatch", spec := "fnExactIsValidSubPatch", apart := false, narrowed := true }
def FnExactIsValidSubPatchUptoSaid : Prop := fnExactIsValidSubPatchUptoRow.holds Try.pinned (OpenSpec.upto fnExactIsValidSubPatchSpec)

/-- 'laws.FnExactSplitSubPatch', WHERE WHAT IT READS IS OF BULK AT MOST 1048576: true; the input reads as it did. -/
def fnExactSplitSubPatchUptoRow : OpenClaim := { program := "ytjflkapdnnecjaa", sum := "a7c6f0e05dc109a31fe121bb861e3dd92e0f737a1658da0d9a88e900f12b60c2", func := "loop.example/g00809/laws.FnExactSplitSubPatch", spec := "fnExactSplitSubPatch", unfollowed := true, recurses := true, apart := false, narrowed := true }
def FnExactSplitSubPatchUptoSaid : Prop := fnExactSplitSubPatchUptoRow.holds Try.pinned (OpenSpec.upto fnExactSplitSubPatchSpec)

/-- 'laws.FnExactEvalSubPatch', WHERE WHAT IT READS IS OF BULK AT MOST 1048576: true; the input reads as it did. -/
def fnExactEvalSubPatchUptoRow : OpenClaim := { program := "ytjflkapdnnecjaa", sum := "a7c6f0e05dc109a31fe121bb861e3dd92e0f737a1658da0d9a88e900f12b60c2", func := "loop.example/g00809/laws.FnExactEvalSubPatch", spec := "fnExactEvalSubPatch", apart := false, narrowed := true }
def FnExactEvalSubPatchUptoSaid : Prop := fnExactEvalSubPatchUptoRow.holds Try.pinned (OpenSpec.upto fnExactEvalSubPatchSpec)

/-- 'laws.FnExactTransformPatch', WHERE WHAT IT READS IS OF BULK AT MOST 1048576: true; the input reads as it did. -/
def fnExactTransformPatchUptoRow : OpenClaim := { program := "ytjflkapdnnecjaa", sum := "a7c6f0e05dc109a31fe121bb861e3dd92e0f737a1658da0d9a88e900f12b60c2", func := "loop.example/g00809/laws.FnExactTransformPatch", spec := "fnExactTransformPatch", apart := false, narrowed := true }
def FnExactTransformPatchUptoSaid : Prop := fnExactTransformPatchUptoRow.holds Try.pinned (OpenSpec.upto fnExactTransformPatchSpec)

/-- 'laws.FnExactPatchBounds', WHERE WHAT IT READS IS OF BULK AT MOST 1048576: true; the input reads as it did. -/
def fnExactPatchBoundsUptoRow : OpenClaim := { program := "ytjflkapdnnecjaa", sum := "a7c6f0e05dc109a31fe121bb861e3dd92e0f737a1658da0d9a88e900f12b60c2", func := "loop.example/g00809/laws.FnExactPatchBounds", spec := "fnExactPatchBounds", apart := false, narrowed := true }
def FnExactPatchBoundsUptoSaid : Prop := fnExactPatchBoundsUptoRow.holds Try.pinned (OpenSpec.upto fnExactPatchBoundsSpec)

end Rows
end Go.Proofs.Ytjflkapdnnecjaa
