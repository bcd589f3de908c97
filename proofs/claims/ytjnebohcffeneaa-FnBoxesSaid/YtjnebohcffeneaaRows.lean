/-
  No cell of these rows narrows 'for every input' (looked for: loops, veiled, ifaces, maps, wideKeys, modest, calm, conditions, laid).
  DERIVED. THE GIVEN ROWS OF THIS SEAT. 6 by the template 'for every input the law returns true; each argument reads behind the call as it read before'; 0 by the template 'total and deterministic' (their statements: YtjnebohcffeneaaTotals.lean).
  GIVEN WITH THE SEED: the statements are not yours to turn. If you find one false, say at which input.
  Laid BY PROGRAM, IN A SANDBOX (cutbox-rows.mjs): the forced cells as the released guide's own fill.sh prints them over the translation 3bdfb59e4c0efc68… (all of the seat's roots in one cut). By AI agents, Wed Nov 11 2026. No macro, syntax, notation, axiom, sorry.
-/
import Derived.Test.YtjnebohcffeneaaChecked
import GoSem.Claim
import GoSem.ClaimJoined
import GoSem.ClaimMapViews
import Derived.JoinedTies
import Derived.KernelRfl
namespace Go.Proofs.Ytjnebohcffeneaa
/- THE CELL 'sum', in the pinned program and in every row, IS THE sha256 OF THE DUMP (.gsa) THAT YtjnebohcffeneaaProg.lean LOADS. Nothing in Lean hashes anything: it is a label: what it is worth is what the hold of that sum in a sandbox is worth. -/
noncomputable def Try.pinned : Pinned := { name := "ytjnebohcffeneaa", sum := "3bdfb59e4c0efc6877ab8cbf27ea2c6e44e0f25dd765cdb247dba4459cdb3819", checked := Try.checked }
namespace Rows
def none {H : Type} : Left H := { results := [], args := [] }

/-- 'laws.FnBoxes': WHATEVER THE INPUT: true; the input reads as it did. -/
def fnBoxesSpec : ChangeSpec := { name := "fnBoxes", fn := fun _ => fun
  | [d] => { results := [.lit (.bool true)], args := [d] }
  | _ => none }
def fnBoxesRow : OpenClaim := { program := "ytjnebohcffeneaa", sum := "3bdfb59e4c0efc6877ab8cbf27ea2c6e44e0f25dd765cdb247dba4459cdb3819", func := "loop.example/g00809/laws.FnBoxes", spec := "fnBoxes", apart := false }
def FnBoxesSaid : Prop := fnBoxesRow.holds Try.pinned (OpenSpec.ofChange fnBoxesSpec)

/-- ITS FALSE NEIGHBOUR: 'it returns false'. Refute it at one input. -/
def fnBoxesWrong : ChangeSpec := { name := "fnBoxes", fn := fun _ => fun
  | [d] => { results := [.lit (.bool false)], args := [d] }
  | _ => none }
def FnBoxesWrongFalsely : Prop := fnBoxesRow.holds Try.pinned (OpenSpec.ofChange fnBoxesWrong)

/-- 'laws.FnExactIsValidBox': WHATEVER THE INPUT: true; the input reads as it did. -/
def fnExactIsValidBoxSpec : ChangeSpec := { name := "fnExactIsValidBox", fn := fun _ => fun
  | [d] => { results := [.lit (.bool true)], args := [d] }
  | _ => none }
def fnExactIsValidBoxRow : OpenClaim := { program := "ytjnebohcffeneaa", sum := "3bdfb59e4c0efc6877ab8cbf27ea2c6e44e0f25dd765cdb247dba4459cdb3819", func := "loop.example/g00809/laws.FnExactIsValidBox", spec := "fnExactIsValidBox", apart := false }
def FnExactIsValidBoxSaid : Prop := fnExactIsValidBoxRow.holds Try.pinned (OpenSpec.ofChange fnExactIsValidBoxSpec)

/-- ITS FALSE NEIGHBOUR: 'it returns false'. Refute it at one input. -/
def fnExactIsValidBoxWrong : ChangeSpec := { name := "fnExactIsValidBox", fn := fun _ => fun
  | [d] => { results := [.lit (.bool false)], args := [d] }
  | _ => none }
def FnExactIsValidBoxWrongFalsely : Prop := fnExactIsValidBoxRow.holds Try.pinned (OpenSpec.ofChange fnExactIsValidBoxWrong)

/-- 'laws.FnExactBoundPoints': WHATEVER THE INPUT: true; the input reads as it did. -/
def fnExactBoundPointsSpec : ChangeSpec := { name := "fnExactBoundPoints", fn := fun _ => fun
  | [d] => { results := [.lit (.bool true)], args := [d] }
  | _ => none }
def fnExactBoundPointsRow : OpenClaim := { program := "ytjnebohcffeneaa", sum := "3bdfb59e4c0efc6877ab8cbf27ea2c6e44e0f25dd765cdb247dba4459cdb3819", func := "loop.example/g00809/laws.FnExactBoundPoints", spec := "fnExactBoundPoints", apart := false }
def FnExactBoundPointsSaid : Prop := fnExactBoundPointsRow.holds Try.pinned (OpenSpec.ofChange fnExactBoundPointsSpec)

/-- ITS FALSE NEIGHBOUR: 'it returns false'. Refute it at one input. -/
def fnExactBoundPointsWrong : ChangeSpec := { name := "fnExactBoundPoints", fn := fun _ => fun
  | [d] => { results := [.lit (.bool false)], args := [d] }
  | _ => none }
def FnExactBoundPointsWrongFalsely : Prop := fnExactBoundPointsRow.holds Try.pinned (OpenSpec.ofChange fnExactBoundPointsWrong)

/-- 'laws.FnExactUnionBox': WHATEVER THE INPUT: true; the input reads as it did. -/
def fnExactUnionBoxSpec : ChangeSpec := { name := "fnExactUnionBox", fn := fun _ => fun
  | [d1, d2] => { results := [.lit (.bool true)], args := [d1, d2] }
  | _ => none }
def fnExactUnionBoxRow : OpenClaim := { program := "ytjnebohcffeneaa", sum := "3bdfb59e4c0efc6877ab8cbf27ea2c6e44e0f25dd765cdb247dba4459cdb3819", func := "loop.example/g00809/laws.FnExactUnionBox", spec := "fnExactUnionBox", apart := false }
def FnExactUnionBoxSaid : Prop := fnExactUnionBoxRow.holds Try.pinned (OpenSpec.ofChange fnExactUnionBoxSpec)

/-- ITS FALSE NEIGHBOUR: 'it returns false'. Refute it at one input. -/
def fnExactUnionBoxWrong : ChangeSpec := { name := "fnExactUnionBox", fn := fun _ => fun
  | [d1, d2] => { results := [.lit (.bool false)], args := [d1, d2] }
  | _ => none }
def FnExactUnionBoxWrongFalsely : Prop := fnExactUnionBoxRow.holds Try.pinned (OpenSpec.ofChange fnExactUnionBoxWrong)

/-- 'laws.FnExactBoxContains': WHATEVER THE INPUT: true; the input reads as it did. -/
def fnExactBoxContainsSpec : ChangeSpec := { name := "fnExactBoxContains", fn := fun _ => fun
  | [d1, d2] => { results := [.lit (.bool true)], args := [d1, d2] }
  | _ => none }
def fnExactBoxContainsRow : OpenClaim := { program := "ytjnebohcffeneaa", sum := "3bdfb59e4c0efc6877ab8cbf27ea2c6e44e0f25dd765cdb247dba4459cdb3819", func := "loop.example/g00809/laws.FnExactBoxContains", spec := "fnExactBoxContains", apart := false }
def FnExactBoxContainsSaid : Prop := fnExactBoxContainsRow.holds Try.pinned (OpenSpec.ofChange fnExactBoxContainsSpec)

/-- ITS FALSE NEIGHBOUR: 'it returns false'. Refute it at one input. -/
def fnExactBoxContainsWrong : ChangeSpec := { name := "fnExactBoxContains", fn := fun _ => fun
  | [d1, d2] => { results := [.lit (.bool false)], args := [d1, d2] }
  | _ => none }
def FnExactBoxContainsWrongFalsely : Prop := fnExactBoxContainsRow.holds Try.pinned (OpenSpec.ofChange fnExactBoxContainsWrong)

/-- 'laws.FnExactExpandBox': WHATEVER THE INPUT: true; the input reads as it did. -/
def fnExactExpandBoxSpec : ChangeSpec := { name := "fnExactExpandBox", fn := fun _ => fun
  | [d1, d2] => { results := [.lit (.bool true)], args := [d1, d2] }
  | _ => none }
def fnExactExpandBoxRow : OpenClaim := { program := "ytjnebohcffeneaa", sum := "3bdfb59e4c0efc6877ab8cbf27ea2c6e44e0f25dd765cdb247dba4459cdb3819", func := "loop.example/g00809/laws.FnExactExpandBox", spec := "fnExactExpandBox", apart := false }
def FnExactExpandBoxSaid : Prop := fnExactExpandBoxRow.holds Try.pinned (OpenSpec.ofChange fnExactExpandBoxSpec)

/-- ITS FALSE NEIGHBOUR: 'it returns false'. Refute it at one input. -/
def fnExactExpandBoxWrong : ChangeSpec := { name := "fnExactExpandBox", fn := fun _ => fun
  | [d1, d2] => { results := [.lit (.bool false)], args := [d1, d2] }
  | _ => none }
def FnExactExpandBoxWrongFalsely : Prop := fnExactExpandBoxRow.holds Try.pinned (OpenSpec.ofChange fnExactExpandBoxWrong)

/- THE SECOND FORM. 'bulk': how many values and letters a reading holds, each counted each time it is reached (what is shared counts as often as it is met; a slice's spare places count too). A statement '..UptoSaid' is the law's where the arguments, and the package variables that the reading takes, are together of bulk at most 1048576: NARROWER than '..Said'. Prove '..Said' where nothing that the law and all that it calls make is longer than what came in: it says more and counts as full. Else prove '..UptoSaid'. A law counts once. -/
mutual
def uptoBulk {H : Type} : DataW H → Nat
  | .lit (.string bytes) => bytes.length + 1
  | .lit _ => 1
  | .nil => 1
  | .ptr d => uptoBulk d + 1
  | .slice elems spare => uptoBulkAll elems + uptoBulkAll spare + 1
  | .agg parts => uptoBulkAll parts + 1
  | .iface _ d => uptoBulk d + 1
  | .map entries => uptoBulkEntries entries + 1
  | .held _ => 1
def uptoBulkAll {H : Type} : List (DataW H) → Nat
  | [] => 0
  | d :: r => uptoBulk d + uptoBulkAll r
def uptoBulkEntries {H : Type} : List (Lit × DataW H) → Nat
  | [] => 0
  | x :: r => uptoBulkEntry x + uptoBulkEntries r
def uptoBulkEntry {H : Type} : Lit × DataW H → Nat
  | (.string bytes, d) => bytes.length + uptoBulk d + 1
  | (_, d) => uptoBulk d + 1
 end
def uptoSmall : (H : Type) → List (DataW H) → Bool := fun _ ds => decide (uptoBulkAll ds ≤ 1048576)
def OpenSpec.upto (s : _root_.Go.ChangeSpec) : _root_.Go.OpenSpec := { _root_.Go.OpenSpec.ofChange s with cond := some uptoSmall }

/-- 'laws.FnBoxes', WHERE WHAT IT READS IS OF BULK AT MOST 1048576: true; the input reads as it did. -/
def fnBoxesUptoRow : OpenClaim := { program := "ytjnebohcffeneaa", sum := "3bdfb59e4c0efc6877ab8cbf27ea2c6e44e0f25dd765cdb247dba4459cdb3819", func := "loop.example/g00809/laws.FnBoxes", spec := "fnBoxes", apart := false, narrowed := true }
def FnBoxesUptoSaid : Prop := fnBoxesUptoRow.holds Try.pinned (OpenSpec.upto fnBoxesSpec)

/-- 'laws.FnExactIsValidBox', WHERE WHAT IT READS IS OF BULK AT MOST 1048576: true; the input reads as it did. -/
def fnExactIsValidBoxUptoRow : OpenClaim := { program := "ytjnebohcffeneaa", sum := "3bdfb59e4c0efc6877ab8cbf27ea2c6e44e0f25dd765cdb247dba4459cdb3819", func := "loop.example/g00809/laws.FnExactIsValidBox", spec := "fnExactIsValidBox", apart := false, narrowed := true }
def FnExactIsValidBoxUptoSaid : Prop := fnExactIsValidBoxUptoRow.holds Try.pinned (OpenSpec.upto fnExactIsValidBoxSpec)

/-- 'laws.FnExactBoundPoints', WHERE WHAT IT READS IS OF BULK AT MOST 1048576: true; the input reads as it did. -/
def fnExactBoundPointsUptoRow : OpenClaim := { program := "ytjnebohcffeneaa", sum := "3bdfb59e4c0efc6877ab8cbf27ea2c6e44e0f25dd765cdb247dba4459cdb3819", func := "loop.example/g00809/laws.FnExactBoundPoints", spec := "fnExactBoundPoints", apart := false, narrowed := true }
def FnExactBoundPointsUptoSaid : Prop := fnExactBoundPointsUptoRow.holds Try.pinned (OpenSpec.upto fnExactBoundPointsSpec)

/-- 'laws.FnExactUnionBox', WHERE WHAT IT READS IS OF BULK AT MOST 1048576: true; the input reads as it did. -/
def fnExactUnionBoxUptoRow : OpenClaim := { program := "ytjnebohcffeneaa", sum := "3bdfb59e4c0efc6877ab8cbf27ea2c6e44e0f25dd765cdb247dba4459cdb3819", func := "loop.example/g00809/laws.FnExactUnionBox", spec := "fnExactUnionBox", apart := false, narrowed := true }
def FnExactUnionBoxUptoSaid : Prop := fnExactUnionBoxUptoRow.holds Try.pinned (OpenSpec.upto fnExactUnionBoxSpec)

/-- 'laws.FnExactBoxContains', WHERE WHAT IT READS IS OF BULK AT MOST 1048576: true; the input reads as it did. -/
def fnExactBoxContainsUptoRow : OpenClaim := { program := "ytjnebohcffeneaa", sum := "3bdfb59e4c0efc6877ab8cbf27ea2c6e44e0f25dd765cdb247dba4459cdb3819", func := "loop.example/g00809/laws.FnExactBoxContains", spec := "fnExactBoxContains", apart := false, narrowed := true }
def FnExactBoxContainsUptoSaid : Prop := fnExactBoxContainsUptoRow.holds Try.pinned (OpenSpec.upto fnExactBoxContainsSpec)

/-- 'laws.FnExactExpandBox', WHERE WHAT IT READS IS OF BULK AT MOST 1048576: true; the input reads as it did. -/
def fnExactExpandBoxUptoRow : OpenClaim := { program := "ytjnebohcffeneaa", sum := "3bdfb59e4c0efc6877ab8cbf27ea2c6e44e0f25dd765cdb247dba4459cdb3819", func := "loop.example/g00809/laws.FnExactExpandBox", spec := "fnExactExpandBox", apart := false, narrowed := true }
def FnExactExpandBoxUptoSaid : Prop := fnExactExpandBoxUptoRow.holds Try.pinned (OpenSpec.upto fnExactExpandBoxSpec)

end Rows
end Go.Proofs.Ytjnebohcffeneaa
