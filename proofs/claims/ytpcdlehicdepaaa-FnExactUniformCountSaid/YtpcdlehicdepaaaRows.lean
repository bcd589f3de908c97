/-
  No cell of these rows narrows 'for every input' (looked for: loops, veiled, ifaces, maps, wideKeys, modest, calm, conditions, laid).
  DERIVED. THE GIVEN ROWS OF THIS SEAT. 7 by the template 'for every input the law returns true; each argument reads behind the call as it read before'; 0 by the template 'total and deterministic' (their statements: YtpcdlehicdepaaaTotals.lean).
  GIVEN WITH THE SEED: the statements are not yours to turn. If you find one false, say at which input.
  Laid BY PROGRAM, IN A SANDBOX (cutbox-rows.mjs): the forced cells as the released guide's own fill.sh prints them over the translation 9071ec4ea80807c9… (all of the seat's roots in one cut). By AI agents, Wed Nov 11 2026. No macro, syntax, notation, axiom, sorry.
-/
import Derived.Test.YtpcdlehicdepaaaChecked
import GoSem.Claim
import GoSem.ClaimJoined
import GoSem.ClaimMapViews
import Derived.JoinedTies
import Derived.KernelRfl
namespace Go.Proofs.Ytpcdlehicdepaaa
/- THE CELL 'sum', in the pinned program and in every row, IS THE sha256 OF THE DUMP (.gsa) THAT YtpcdlehicdepaaaProg.lean LOADS. Nothing in Lean hashes anything: it is a label: what it is worth is what the hold of that sum in a sandbox is worth. -/
noncomputable def Try.pinned : Pinned := { name := "ytpcdlehicdepaaa", sum := "9071ec4ea80807c94d3c4001e1371db0d77a298f8973338bc6d2237960d6546e", checked := Try.checked }
namespace Rows
def none {H : Type} : Left H := { results := [], args := [] }

/-- 'laws.FnExactCheckText': WHATEVER THE INPUT: true; the input reads as it did. -/
def fnExactCheckTextSpec : ChangeSpec := { name := "fnExactCheckText", fn := fun _ => fun
  | [d] => { results := [.lit (.bool true)], args := [d] }
  | _ => none }
def fnExactCheckTextRow : OpenClaim := { program := "ytpcdlehicdepaaa", sum := "9071ec4ea80807c94d3c4001e1371db0d77a298f8973338bc6d2237960d6546e", func := "loop.example/g00809/laws.FnExactCheckText", spec := "fnExactCheckText", apart := false }
def FnExactCheckTextSaid : Prop := fnExactCheckTextRow.holds Try.pinned (OpenSpec.ofChange fnExactCheckTextSpec)

/-- ITS FALSE NEIGHBOUR: 'it returns false'. Refute it at one input. -/
def fnExactCheckTextWrong : ChangeSpec := { name := "fnExactCheckText", fn := fun _ => fun
  | [d] => { results := [.lit (.bool false)], args := [d] }
  | _ => none }
def FnExactCheckTextWrongFalsely : Prop := fnExactCheckTextRow.holds Try.pinned (OpenSpec.ofChange fnExactCheckTextWrong)

/-- 'laws.FnExactIsVariable': WHATEVER THE INPUT: true; the input reads as it did. -/
def fnExactIsVariableSpec : ChangeSpec := { name := "fnExactIsVariable", fn := fun _ => fun
  | [d] => { results := [.lit (.bool true)], args := [d] }
  | _ => none }
def fnExactIsVariableRow : OpenClaim := { program := "ytpcdlehicdepaaa", sum := "9071ec4ea80807c94d3c4001e1371db0d77a298f8973338bc6d2237960d6546e", func := "loop.example/g00809/laws.FnExactIsVariable", spec := "fnExactIsVariable", apart := false }
def FnExactIsVariableSaid : Prop := fnExactIsVariableRow.holds Try.pinned (OpenSpec.ofChange fnExactIsVariableSpec)

/-- ITS FALSE NEIGHBOUR: 'it returns false'. Refute it at one input. -/
def fnExactIsVariableWrong : ChangeSpec := { name := "fnExactIsVariable", fn := fun _ => fun
  | [d] => { results := [.lit (.bool false)], args := [d] }
  | _ => none }
def FnExactIsVariableWrongFalsely : Prop := fnExactIsVariableRow.holds Try.pinned (OpenSpec.ofChange fnExactIsVariableWrong)

/-- 'laws.FnExactArity': WHATEVER THE INPUT: true; the input reads as it did. -/
def fnExactAritySpec : ChangeSpec := { name := "fnExactArity", fn := fun _ => fun
  | [d] => { results := [.lit (.bool true)], args := [d] }
  | _ => none }
def fnExactArityRow : OpenClaim := { program := "ytpcdlehicdepaaa", sum := "9071ec4ea80807c94d3c4001e1371db0d77a298f8973338bc6d2237960d6546e", func := "loop.example/g00809/laws.FnExactArity", spec := "fnExactArity", apart := false }
def FnExactAritySaid : Prop := fnExactArityRow.holds Try.pinned (OpenSpec.ofChange fnExactAritySpec)

/-- ITS FALSE NEIGHBOUR: 'it returns false'. Refute it at one input. -/
def fnExactArityWrong : ChangeSpec := { name := "fnExactArity", fn := fun _ => fun
  | [d] => { results := [.lit (.bool false)], args := [d] }
  | _ => none }
def FnExactArityWrongFalsely : Prop := fnExactArityRow.holds Try.pinned (OpenSpec.ofChange fnExactArityWrong)

/-- 'laws.FnExactOwnerOf': WHATEVER THE INPUT: true; the input reads as it did. -/
def fnExactOwnerOfSpec : ChangeSpec := { name := "fnExactOwnerOf", fn := fun _ => fun
  | [d1, d2] => { results := [.lit (.bool true)], args := [d1, d2] }
  | _ => none }
def fnExactOwnerOfRow : OpenClaim := { program := "ytpcdlehicdepaaa", sum := "9071ec4ea80807c94d3c4001e1371db0d77a298f8973338bc6d2237960d6546e", func := "loop.example/g00809/laws.FnExactOwnerOf", spec := "fnExactOwnerOf", unfollowed := true, recurses := true, apart := false }
def FnExactOwnerOfSaid : Prop := fnExactOwnerOfRow.holds Try.pinned (OpenSpec.ofChange fnExactOwnerOfSpec)

/-- ITS FALSE NEIGHBOUR: 'it returns false'. Refute it at one input. -/
def fnExactOwnerOfWrong : ChangeSpec := { name := "fnExactOwnerOf", fn := fun _ => fun
  | [d1, d2] => { results := [.lit (.bool false)], args := [d1, d2] }
  | _ => none }
def FnExactOwnerOfWrongFalsely : Prop := fnExactOwnerOfRow.holds Try.pinned (OpenSpec.ofChange fnExactOwnerOfWrong)

/-- 'laws.FnExactCheck': WHATEVER THE INPUT: true; the input reads as it did. -/
def fnExactCheckSpec : ChangeSpec := { name := "fnExactCheck", fn := fun _ => fun
  | [d] => { results := [.lit (.bool true)], args := [d] }
  | _ => none }
def fnExactCheckRow : OpenClaim := { program := "ytpcdlehicdepaaa", sum := "9071ec4ea80807c94d3c4001e1371db0d77a298f8973338bc6d2237960d6546e", func := "loop.example/g00809/laws.FnExactCheck", spec := "fnExactCheck", unfollowed := true, recurses := true, apart := false }
def FnExactCheckSaid : Prop := fnExactCheckRow.holds Try.pinned (OpenSpec.ofChange fnExactCheckSpec)

/-- ITS FALSE NEIGHBOUR: 'it returns false'. Refute it at one input. -/
def fnExactCheckWrong : ChangeSpec := { name := "fnExactCheck", fn := fun _ => fun
  | [d] => { results := [.lit (.bool false)], args := [d] }
  | _ => none }
def FnExactCheckWrongFalsely : Prop := fnExactCheckRow.holds Try.pinned (OpenSpec.ofChange fnExactCheckWrong)

/-- 'laws.FnExactIsUniform': WHATEVER THE INPUT: true; the input reads as it did. -/
def fnExactIsUniformSpec : ChangeSpec := { name := "fnExactIsUniform", fn := fun _ => fun
  | [d1, d2] => { results := [.lit (.bool true)], args := [d1, d2] }
  | _ => none }
def fnExactIsUniformRow : OpenClaim := { program := "ytpcdlehicdepaaa", sum := "9071ec4ea80807c94d3c4001e1371db0d77a298f8973338bc6d2237960d6546e", func := "loop.example/g00809/laws.FnExactIsUniform", spec := "fnExactIsUniform", unfollowed := true, recurses := true, apart := false }
def FnExactIsUniformSaid : Prop := fnExactIsUniformRow.holds Try.pinned (OpenSpec.ofChange fnExactIsUniformSpec)

/-- ITS FALSE NEIGHBOUR: 'it returns false'. Refute it at one input. -/
def fnExactIsUniformWrong : ChangeSpec := { name := "fnExactIsUniform", fn := fun _ => fun
  | [d1, d2] => { results := [.lit (.bool false)], args := [d1, d2] }
  | _ => none }
def FnExactIsUniformWrongFalsely : Prop := fnExactIsUniformRow.holds Try.pinned (OpenSpec.ofChange fnExactIsUniformWrong)

/-- 'laws.FnExactUniformCount': WHATEVER THE INPUT: true; the input reads as it did. -/
def fnExactUniformCountSpec : ChangeSpec := { name := "fnExactUniformCount", fn := fun _ => fun
  | [d] => { results := [.lit (.bool true)], args := [d] }
  | _ => none }
def fnExactUniformCountRow : OpenClaim := { program := "ytpcdlehicdepaaa", sum := "9071ec4ea80807c94d3c4001e1371db0d77a298f8973338bc6d2237960d6546e", func := "loop.example/g00809/laws.FnExactUniformCount", spec := "fnExactUniformCount", unfollowed := true, recurses := true, apart := false }
def FnExactUniformCountSaid : Prop := fnExactUniformCountRow.holds Try.pinned (OpenSpec.ofChange fnExactUniformCountSpec)

/-- ITS FALSE NEIGHBOUR: 'it returns false'. Refute it at one input. -/
def fnExactUniformCountWrong : ChangeSpec := { name := "fnExactUniformCount", fn := fun _ => fun
  | [d] => { results := [.lit (.bool false)], args := [d] }
  | _ => none }
def FnExactUniformCountWrongFalsely : Prop := fnExactUniformCountRow.holds Try.pinned (OpenSpec.ofChange fnExactUniformCountWrong)

/- THE SECOND FORM. 'bulk': how many values and letters a reading holds, each counted each time it is reached (what is shared counts as often as it is met; a slice's spare places count too). A statement '..UptoSaid' is the law's where the arguments, and the package variables that the reading takes, are together of bulk at most 1048576: NARROWER than '..Said'. Prove '..Said' where nothing that the law and all that it calls make is longer than what came in: it says more and counts as full. Else prove '..UptoSaid'. A law counts once. -/
mutual
def uptoBulk {H : Type} : DataW H → Nat
  | .lit (.string bytes) => bytes.length + 1
  | .lit _ => 1
  | .nil => 1
  | .ptr d => uptoBulk d + 1
  | .slice elems spare => uptoBulkAll elems + uptoBulkAll spare + 1
  | .agg parts => uptoBulkAll parts + 1
  | .iface _ d => uptoBulk d + 1
  | .map entries => uptoBulkEntries entries + 1
  | .held _ => 1
def uptoBulkAll {H : Type} : List (DataW H) → Nat
  | [] => 0
  | d :: r => uptoBulk d + uptoBulkAll r
def uptoBulkEntries {H : Type} : List (Lit × DataW H) → Nat
  | [] => 0
  | x :: r => uptoBulkEntry x + uptoBulkEntries r
def uptoBulkEntry {H : Type} : Lit × DataW H → Nat
  | (.string bytes, d) => bytes.length + uptoBulk d + 1
  | (_, d) => uptoBulk d + 1
 end
def uptoSmall : (H : Type) → List (DataW H) → Bool := fun _ ds => decide (uptoBulkAll ds ≤ 1048576)
def OpenSpec.upto (s : _root_.Go.ChangeSpec) : _root_.Go.OpenSpec := { _root_.Go.OpenSpec.ofChange s with cond := some uptoSmall }

/-- 'laws.FnExactCheckText', WHERE WHAT IT READS IS OF BULK AT MOST 1048576: true; the input reads as it did. -/
def fnExactCheckTextUptoRow : OpenClaim := { program := "ytpcdlehicdepaaa", sum := "9071ec4ea80807c94d3c4001e1371db0d77a298f8973338bc6d2237960d6546e", func := "loop.example/g00809/laws.FnExactCheckText", spec := "fnExactCheckText", apart := false, narrowed := true }
def FnExactCheckTextUptoSaid : Prop := fnExactCheckTextUptoRow.holds Try.pinned (OpenSpec.upto fnExactCheckTextSpec)

/-- 'laws.FnExactIsVariable', WHERE WHAT IT READS IS OF BULK AT MOST 1048576: true; the input reads as it did. -/
def fnExactIsVariableUptoRow : OpenClaim := { program := "ytpcdlehicdepaaa", sum := "9071ec4ea80807c94d3c4001e1371db0d77a298f8973338bc6d2237960d6546e", func := "loop.example/g00809/laws.FnExactIsVariable", spec := "fnExactIsVariable", apart := false, narrowed := true }
def FnExactIsVariableUptoSaid : Prop := fnExactIsVariableUptoRow.holds Try.pinned (OpenSpec.upto fnExactIsVariableSpec)

/-- 'laws.FnExactArity', WHERE WHAT IT READS IS OF BULK AT MOST 1048576: true; the input reads as it did. -/
def fnExactArityUptoRow : OpenClaim := { program := "ytpcdlehicdepaaa", sum := "9071ec4ea80807c94d3c4001e1371db0d77a298f8973338bc6d2237960d6546e", func := "loop.example/g00809/laws.FnExactArity", spec := "fnExactArity", apart := false, narrowed := true }
def FnExactArityUptoSaid : Prop := fnExactArityUptoRow.holds Try.pinned (OpenSpec.upto fnExactAritySpec)

/-- 'laws.FnExactOwnerOf', WHERE WHAT IT READS IS OF BULK AT MOST 1048576: true; the input reads as it did. -/
def fnExactOwnerOfUptoRow : OpenClaim := { program := "ytpcdlehicdepaaa", sum := "9071ec4ea80807c94d3c4001e1371db0d77a298f8973338bc6d2237960d6546e", func := "loop.example/g00809/laws.FnExactOwnerOf", spec := "fnExactOwnerOf", unfollowed := true, recurses := true, apart := false, narrowed := true }
def FnExactOwnerOfUptoSaid : Prop := fnExactOwnerOfUptoRow.holds Try.pinned (OpenSpec.upto fnExactOwnerOfSpec)

/-- 'laws.FnExactCheck', WHERE WHAT IT READS IS OF BULK AT MOST 1048576: true; the input reads as it did. -/
def fnExactCheckUptoRow : OpenClaim := { program := "ytpcdlehicdepaaa", sum := "9071ec4ea80807c94d3c4001e1371db0d77a298f8973338bc6d2237960d6546e", func := "loop.example/g00809/laws.FnExactCheck", spec := "fnExactCheck", unfollowed := true, recurses := true, apart := false, narrowed := true }
def FnExactCheckUptoSaid : Prop := fnExactCheckUptoRow.holds Try.pinned (OpenSpec.upto fnExactCheckSpec)

/-- 'laws.FnExactIsUniform', WHERE WHAT IT READS IS OF BULK AT MOST 1048576: true; the input reads as it did. -/
def fnExactIsUniformUptoRow : OpenClaim := { program := "ytpcdlehicdepaaa", sum := "9071ec4ea80807c94d3c4001e1371db0d77a298f8973338bc6d2237960d6546e", func := "loop.example/g00809/laws.FnExactIsUniform", spec := "fnExactIsUniform", unfollowed := true, recurses := true, apart := false, narrowed := true }
def FnExactIsUniformUptoSaid : Prop := fnExactIsUniformUptoRow.holds Try.pinned (OpenSpec.upto fnExactIsUniformSpec)

/-- 'laws.FnExactUniformCount', WHERE WHAT IT READS IS OF BULK AT MOST 1048576: true; the input reads as it did. -/
def fnExactUniformCountUptoRow : OpenClaim := { program := "ytpcdlehicdepaaa", sum := "9071ec4ea80807c94d3c4001e1371db0d77a298f8973338bc6d2237960d6546e", func := "loop.example/g00809/laws.FnExactUniformCount", spec := "fnExactUniformCount", unfollowed := true, recurses := true, apart := false, narrowed := true }
def FnExactUniformCountUptoSaid : Prop := fnExactUniformCountUptoRow.holds Try.pinned (OpenSpec.upto fnExactUniformCountSpec)

end Rows
end Go.Proofs.Ytpcdlehicdepaaa
