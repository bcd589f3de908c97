/-
  No cell of these rows narrows 'for every input' (looked for: loops, veiled, ifaces, maps, wideKeys, modest, calm, conditions, laid).
  DERIVED. THE GIVEN ROWS OF THIS SEAT. 9 by the template 'for every input the law returns true; each argument reads behind the call as it read before'; 0 by the template 'total and deterministic' (their statements: YtjdafiijldfdaaaTotals.lean).
  GIVEN WITH THE SEED: the statements are not yours to turn. If you find one false, say at which input.
  Laid BY PROGRAM, IN A SANDBOX (cutbox-rows.mjs): the forced cells as the released guide's own fill.sh prints them over the translation a3c2af4f165a3535… (all of the seat's roots in one cut). By AI agents, Wed Nov 11 2026. No macro, syntax, notation, axiom, sorry.
-/
import Derived.Test.YtjdafiijldfdaaaChecked
import GoSem.Claim
import GoSem.ClaimJoined
import GoSem.ClaimMapViews
import Derived.JoinedTies
import Derived.KernelRfl
namespace Go.Proofs.Ytjdafiijldfdaaa
/- THE CELL 'sum', in the pinned program and in every row, IS THE sha256 OF THE DUMP (.gsa) THAT YtjdafiijldfdaaaProg.lean LOADS. Nothing in Lean hashes anything: it is a label: what it is worth is what the hold of that sum in a sandbox is worth. -/
noncomputable def Try.pinned : Pinned := { name := "ytjdafiijldfdaaa", sum := "a3c2af4f165a353561d6e2ea75d88e41532b9f7ca7dc598d4a69bd6a6d08983b", checked := Try.checked }
namespace Rows
def none {H : Type} : Left H := { results := [], args := [] }

/-- 'laws.FnExactIsValidVec': WHATEVER THE INPUT: true; the input reads as it did. -/
def fnExactIsValidVecSpec : ChangeSpec := { name := "fnExactIsValidVec", fn := fun _ => fun
  | [d] => { results := [.lit (.bool true)], args := [d] }
  | _ => none }
def fnExactIsValidVecRow : OpenClaim := { program := "ytjdafiijldfdaaa", sum := "a3c2af4f165a353561d6e2ea75d88e41532b9f7ca7dc598d4a69bd6a6d08983b", func := "loop.example/g00809/laws.FnExactIsValidVec", spec := "fnExactIsValidVec", apart := false }
def FnExactIsValidVecSaid : Prop := fnExactIsValidVecRow.holds Try.pinned (OpenSpec.ofChange fnExactIsValidVecSpec)

/-- ITS FALSE NEIGHBOUR: 'it returns false'. Refute it at one input. -/
def fnExactIsValidVecWrong : ChangeSpec := { name := "fnExactIsValidVec", fn := fun _ => fun
  | [d] => { results := [.lit (.bool false)], args := [d] }
  | _ => none }
def FnExactIsValidVecWrongFalsely : Prop := fnExactIsValidVecRow.holds Try.pinned (OpenSpec.ofChange fnExactIsValidVecWrong)

/-- 'laws.FnExactAdd': WHATEVER THE INPUT: true; the input reads as it did. -/
def fnExactAddSpec : ChangeSpec := { name := "fnExactAdd", fn := fun _ => fun
  | [d1, d2] => { results := [.lit (.bool true)], args := [d1, d2] }
  | _ => none }
def fnExactAddRow : OpenClaim := { program := "ytjdafiijldfdaaa", sum := "a3c2af4f165a353561d6e2ea75d88e41532b9f7ca7dc598d4a69bd6a6d08983b", func := "loop.example/g00809/laws.FnExactAdd", spec := "fnExactAdd", apart := false }
def FnExactAddSaid : Prop := fnExactAddRow.holds Try.pinned (OpenSpec.ofChange fnExactAddSpec)

/-- ITS FALSE NEIGHBOUR: 'it returns false'. Refute it at one input. -/
def fnExactAddWrong : ChangeSpec := { name := "fnExactAdd", fn := fun _ => fun
  | [d1, d2] => { results := [.lit (.bool false)], args := [d1, d2] }
  | _ => none }
def FnExactAddWrongFalsely : Prop := fnExactAddRow.holds Try.pinned (OpenSpec.ofChange fnExactAddWrong)

/-- 'laws.FnExactSubVec': WHATEVER THE INPUT: true; the input reads as it did. -/
def fnExactSubVecSpec : ChangeSpec := { name := "fnExactSubVec", fn := fun _ => fun
  | [d1, d2] => { results := [.lit (.bool true)], args := [d1, d2] }
  | _ => none }
def fnExactSubVecRow : OpenClaim := { program := "ytjdafiijldfdaaa", sum := "a3c2af4f165a353561d6e2ea75d88e41532b9f7ca7dc598d4a69bd6a6d08983b", func := "loop.example/g00809/laws.FnExactSubVec", spec := "fnExactSubVec", apart := false }
def FnExactSubVecSaid : Prop := fnExactSubVecRow.holds Try.pinned (OpenSpec.ofChange fnExactSubVecSpec)

/-- ITS FALSE NEIGHBOUR: 'it returns false'. Refute it at one input. -/
def fnExactSubVecWrong : ChangeSpec := { name := "fnExactSubVec", fn := fun _ => fun
  | [d1, d2] => { results := [.lit (.bool false)], args := [d1, d2] }
  | _ => none }
def FnExactSubVecWrongFalsely : Prop := fnExactSubVecRow.holds Try.pinned (OpenSpec.ofChange fnExactSubVecWrong)

/-- 'laws.FnExactDot': WHATEVER THE INPUT: true; the input reads as it did. -/
def fnExactDotSpec : ChangeSpec := { name := "fnExactDot", fn := fun _ => fun
  | [d1, d2] => { results := [.lit (.bool true)], args := [d1, d2] }
  | _ => none }
def fnExactDotRow : OpenClaim := { program := "ytjdafiijldfdaaa", sum := "a3c2af4f165a353561d6e2ea75d88e41532b9f7ca7dc598d4a69bd6a6d08983b", func := "loop.example/g00809/laws.FnExactDot", spec := "fnExactDot", apart := false }
def FnExactDotSaid : Prop := fnExactDotRow.holds Try.pinned (OpenSpec.ofChange fnExactDotSpec)

/-- ITS FALSE NEIGHBOUR: 'it returns false'. Refute it at one input. -/
def fnExactDotWrong : ChangeSpec := { name := "fnExactDot", fn := fun _ => fun
  | [d1, d2] => { results := [.lit (.bool false)], args := [d1, d2] }
  | _ => none }
def FnExactDotWrongFalsely : Prop := fnExactDotRow.holds Try.pinned (OpenSpec.ofChange fnExactDotWrong)

/-- 'laws.FnExactLerp': WHATEVER THE INPUT: true; the input reads as it did. -/
def fnExactLerpSpec : ChangeSpec := { name := "fnExactLerp", fn := fun _ => fun
  | [d1, d2, d3, d4] => { results := [.lit (.bool true)], args := [d1, d2, d3, d4] }
  | _ => none }
def fnExactLerpRow : OpenClaim := { program := "ytjdafiijldfdaaa", sum := "a3c2af4f165a353561d6e2ea75d88e41532b9f7ca7dc598d4a69bd6a6d08983b", func := "loop.example/g00809/laws.FnExactLerp", spec := "fnExactLerp", apart := false }
def FnExactLerpSaid : Prop := fnExactLerpRow.holds Try.pinned (OpenSpec.ofChange fnExactLerpSpec)

/-- ITS FALSE NEIGHBOUR: 'it returns false'. Refute it at one input. -/
def fnExactLerpWrong : ChangeSpec := { name := "fnExactLerp", fn := fun _ => fun
  | [d1, d2, d3, d4] => { results := [.lit (.bool false)], args := [d1, d2, d3, d4] }
  | _ => none }
def FnExactLerpWrongFalsely : Prop := fnExactLerpRow.holds Try.pinned (OpenSpec.ofChange fnExactLerpWrong)

/-- 'laws.FnExactScale': WHATEVER THE INPUT: true; the input reads as it did. -/
def fnExactScaleSpec : ChangeSpec := { name := "fnExactScale", fn := fun _ => fun
  | [d1, d2, d3] => { results := [.lit (.bool true)], args := [d1, d2, d3] }
  | _ => none }
def fnExactScaleRow : OpenClaim := { program := "ytjdafiijldfdaaa", sum := "a3c2af4f165a353561d6e2ea75d88e41532b9f7ca7dc598d4a69bd6a6d08983b", func := "loop.example/g00809/laws.FnExactScale", spec := "fnExactScale", apart := false }
def FnExactScaleSaid : Prop := fnExactScaleRow.holds Try.pinned (OpenSpec.ofChange fnExactScaleSpec)

/-- ITS FALSE NEIGHBOUR: 'it returns false'. Refute it at one input. -/
def fnExactScaleWrong : ChangeSpec := { name := "fnExactScale", fn := fun _ => fun
  | [d1, d2, d3] => { results := [.lit (.bool false)], args := [d1, d2, d3] }
  | _ => none }
def FnExactScaleWrongFalsely : Prop := fnExactScaleRow.holds Try.pinned (OpenSpec.ofChange fnExactScaleWrong)

/-- 'laws.FnExactMinVec': WHATEVER THE INPUT: true; the input reads as it did. -/
def fnExactMinVecSpec : ChangeSpec := { name := "fnExactMinVec", fn := fun _ => fun
  | [d1, d2] => { results := [.lit (.bool true)], args := [d1, d2] }
  | _ => none }
def fnExactMinVecRow : OpenClaim := { program := "ytjdafiijldfdaaa", sum := "a3c2af4f165a353561d6e2ea75d88e41532b9f7ca7dc598d4a69bd6a6d08983b", func := "loop.example/g00809/laws.FnExactMinVec", spec := "fnExactMinVec", apart := false }
def FnExactMinVecSaid : Prop := fnExactMinVecRow.holds Try.pinned (OpenSpec.ofChange fnExactMinVecSpec)

/-- ITS FALSE NEIGHBOUR: 'it returns false'. Refute it at one input. -/
def fnExactMinVecWrong : ChangeSpec := { name := "fnExactMinVec", fn := fun _ => fun
  | [d1, d2] => { results := [.lit (.bool false)], args := [d1, d2] }
  | _ => none }
def FnExactMinVecWrongFalsely : Prop := fnExactMinVecRow.holds Try.pinned (OpenSpec.ofChange fnExactMinVecWrong)

/-- 'laws.FnExactMaxVec': WHATEVER THE INPUT: true; the input reads as it did. -/
def fnExactMaxVecSpec : ChangeSpec := { name := "fnExactMaxVec", fn := fun _ => fun
  | [d1, d2] => { results := [.lit (.bool true)], args := [d1, d2] }
  | _ => none }
def fnExactMaxVecRow : OpenClaim := { program := "ytjdafiijldfdaaa", sum := "a3c2af4f165a353561d6e2ea75d88e41532b9f7ca7dc598d4a69bd6a6d08983b", func := "loop.example/g00809/laws.FnExactMaxVec", spec := "fnExactMaxVec", apart := false }
def FnExactMaxVecSaid : Prop := fnExactMaxVecRow.holds Try.pinned (OpenSpec.ofChange fnExactMaxVecSpec)

/-- ITS FALSE NEIGHBOUR: 'it returns false'. Refute it at one input. -/
def fnExactMaxVecWrong : ChangeSpec := { name := "fnExactMaxVec", fn := fun _ => fun
  | [d1, d2] => { results := [.lit (.bool false)], args := [d1, d2] }
  | _ => none }
def FnExactMaxVecWrongFalsely : Prop := fnExactMaxVecRow.holds Try.pinned (OpenSpec.ofChange fnExactMaxVecWrong)

/-- 'laws.FnExactCross': WHATEVER THE INPUT: true; the input reads as it did. -/
def fnExactCrossSpec : ChangeSpec := { name := "fnExactCross", fn := fun _ => fun
  | [d1, d2] => { results := [.lit (.bool true)], args := [d1, d2] }
  | _ => none }
def fnExactCrossRow : OpenClaim := { program := "ytjdafiijldfdaaa", sum := "a3c2af4f165a353561d6e2ea75d88e41532b9f7ca7dc598d4a69bd6a6d08983b", func := "loop.example/g00809/laws.FnExactCross", spec := "fnExactCross", apart := false }
def FnExactCrossSaid : Prop := fnExactCrossRow.holds Try.pinned (OpenSpec.ofChange fnExactCrossSpec)

/-- ITS FALSE NEIGHBOUR: 'it returns false'. Refute it at one input. -/
def fnExactCrossWrong : ChangeSpec := { name := "fnExactCross", fn := fun _ => fun
  | [d1, d2] => { results := [.lit (.bool false)], args := [d1, d2] }
  | _ => none }
def FnExactCrossWrongFalsely : Prop := fnExactCrossRow.holds Try.pinned (OpenSpec.ofChange fnExactCrossWrong)

/- THE SECOND FORM. 'bulk': how many values and letters a reading holds, each counted each time it is reached (what is shared counts as often as it is met; a slice's spare places count too). A statement '..UptoSaid' is the law's where the arguments, and the package variables that the reading takes, are together of bulk at most 1048576: NARROWER than '..Said'. Prove '..Said' where nothing that the law and all that it calls make is longer than what came in: it says more and counts as full. Else prove '..UptoSaid'. A law counts once. -/
mutual
def uptoBulk {H : Type} : DataW H → Nat
  | .lit (.string bytes) => bytes.length + 1
  | .lit _ => 1
  | .nil => 1
  | .ptr d => uptoBulk d + 1
  | .slice elems spare => uptoBulkAll elems + uptoBulkAll spare + 1
  | .agg parts => uptoBulkAll parts + 1
  | .iface _ d => uptoBulk d + 1
  | .map entries => uptoBulkEntries entries + 1
  | .held _ => 1
def uptoBulkAll {H : Type} : List (DataW H) → Nat
  | [] => 0
  | d :: r => uptoBulk d + uptoBulkAll r
def uptoBulkEntries {H : Type} : List (Lit × DataW H) → Nat
  | [] => 0
  | x :: r => uptoBulkEntry x + uptoBulkEntries r
def uptoBulkEntry {H : Type} : Lit × DataW H → Nat
  | (.string bytes, d) => bytes.length + uptoBulk d + 1
  | (_, d) => uptoBulk d + 1
 end
def uptoSmall : (H : Type) → List (DataW H) → Bool := fun _ ds => decide (uptoBulkAll ds ≤ 1048576)
def OpenSpec.upto (s : _root_.Go.ChangeSpec) : _root_.Go.OpenSpec := { _root_.Go.OpenSpec.ofChange s with cond := some uptoSmall }

/-- 'laws.FnExactIsValidVec', WHERE WHAT IT READS IS OF BULK AT MOST 1048576: true; the input reads as it did. -/
def fnExactIsValidVecUptoRow : OpenClaim := { program := "ytjdafiijldfdaaa", sum := "a3c2af4f165a353561d6e2ea75d88e41532b9f7ca7dc598d4a69bd6a6d08983b", func := "loop.example/g00809/laws.FnExactIsValidVec", spec := "fnExactIsValidVec", apart := false, narrowed := true }
def FnExactIsValidVecUptoSaid : Prop := fnExactIsValidVecUptoRow.holds Try.pinned (OpenSpec.upto fnExactIsValidVecSpec)

/-- 'laws.FnExactAdd', WHERE WHAT IT READS IS OF BULK AT MOST 1048576: true; the input reads as it did. -/
def fnExactAddUptoRow : OpenClaim := { program := "ytjdafiijldfdaaa", sum := "a3c2af4f165a353561d6e2ea75d88e41532b9f7ca7dc598d4a69bd6a6d08983b", func := "loop.example/g00809/laws.FnExactAdd", spec := "fnExactAdd", apart := false, narrowed := true }
def FnExactAddUptoSaid : Prop := fnExactAddUptoRow.holds Try.pinned (OpenSpec.upto fnExactAddSpec)

/-- 'laws.FnExactSubVec', WHERE WHAT IT READS IS OF BULK AT MOST 1048576: true; the input reads as it did. -/
def fnExactSubVecUptoRow : OpenClaim := { program := "ytjdafiijldfdaaa", sum := "a3c2af4f165a353561d6e2ea75d88e41532b9f7ca7dc598d4a69bd6a6d08983b", func := "loop.example/g00809/laws.FnExactSubVec", spec := "fnExactSubVec", apart := false, narrowed := true }
def FnExactSubVecUptoSaid : Prop := fnExactSubVecUptoRow.holds Try.pinned (OpenSpec.upto fnExactSubVecSpec)

/-- 'laws.FnExactDot', WHERE WHAT IT READS IS OF BULK AT MOST 1048576: true; the input reads as it did. -/
def fnExactDotUptoRow : OpenClaim := { program := "ytjdafiijldfdaaa", sum := "a3c2af4f165a353561d6e2ea75d88e41532b9f7ca7dc598d4a69bd6a6d08983b", func := "loop.example/g00809/laws.FnExactDot", spec := "fnExactDot", apart := false, narrowed := true }
def FnExactDotUptoSaid : Prop := fnExactDotUptoRow.holds Try.pinned (OpenSpec.upto fnExactDotSpec)

/-- 'laws.FnExactLerp', WHERE WHAT IT READS IS OF BULK AT MOST 1048576: true; the input reads as it did. -/
def fnExactLerpUptoRow : OpenClaim := { program := "ytjdafiijldfdaaa", sum := "a3c2af4f165a353561d6e2ea75d88e41532b9f7ca7dc598d4a69bd6a6d08983b", func := "loop.example/g00809/laws.FnExactLerp", spec := "fnExactLerp", apart := false, narrowed := true }
def FnExactLerpUptoSaid : Prop := fnExactLerpUptoRow.holds Try.pinned (OpenSpec.upto fnExactLerpSpec)

/-- 'laws.FnExactScale', WHERE WHAT IT READS IS OF BULK AT MOST 1048576: true; the input reads as it did. -/
def fnExactScaleUptoRow : OpenClaim := { program := "ytjdafiijldfdaaa", sum := "a3c2af4f165a353561d6e2ea75d88e41532b9f7ca7dc598d4a69bd6a6d08983b", func := "loop.example/g00809/laws.FnExactScale", spec := "fnExactScale", apart := false, narrowed := true }
def FnExactScaleUptoSaid : Prop := fnExactScaleUptoRow.holds Try.pinned (OpenSpec.upto fnExactScaleSpec)

/-- 'laws.FnExactMinVec', WHERE WHAT IT READS IS OF BULK AT MOST 1048576: true; the input reads as it did. -/
def fnExactMinVecUptoRow : OpenClaim := { program := "ytjdafiijldfdaaa", sum := "a3c2af4f165a353561d6e2ea75d88e41532b9f7ca7dc598d4a69bd6a6d08983b", func := "loop.example/g00809/laws.FnExactMinVec", spec := "fnExactMinVec", apart := false, narrowed := true }
def FnExactMinVecUptoSaid : Prop := fnExactMinVecUptoRow.holds Try.pinned (OpenSpec.upto fnExactMinVecSpec)

/-- 'laws.FnExactMaxVec', WHERE WHAT IT READS IS OF BULK AT MOST 1048576: true; the input reads as it did. -/
def fnExactMaxVecUptoRow : OpenClaim := { program := "ytjdafiijldfdaaa", sum := "a3c2af4f165a353561d6e2ea75d88e41532b9f7ca7dc598d4a69bd6a6d08983b", func := "loop.example/g00809/laws.FnExactMaxVec", spec := "fnExactMaxVec", apart := false, narrowed := true }
def FnExactMaxVecUptoSaid : Prop := fnExactMaxVecUptoRow.holds Try.pinned (OpenSpec.upto fnExactMaxVecSpec)

/-- 'laws.FnExactCross', WHERE WHAT IT READS IS OF BULK AT MOST 1048576: true; the input reads as it did. -/
def fnExactCrossUptoRow : OpenClaim := { program := "ytjdafiijldfdaaa", sum := "a3c2af4f165a353561d6e2ea75d88e41532b9f7ca7dc598d4a69bd6a6d08983b", func := "loop.example/g00809/laws.FnExactCross", spec := "fnExactCross", apart := false, narrowed := true }
def FnExactCrossUptoSaid : Prop := fnExactCrossUptoRow.holds Try.pinned (OpenSpec.upto fnExactCrossSpec)

end Rows
end Go.Proofs.Ytjdafiijldfdaaa
