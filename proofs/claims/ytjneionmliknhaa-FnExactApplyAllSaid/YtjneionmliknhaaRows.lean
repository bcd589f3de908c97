/-
  No cell of these rows narrows 'for every input' (looked for: loops, veiled, ifaces, maps, wideKeys, modest, calm, conditions, laid).
  DERIVED. THE GIVEN ROWS OF THIS SEAT. 7 by the template 'for every input the law returns true; each argument reads behind the call as it read before'; 0 by the template 'total and deterministic' (their statements: YtjneionmliknhaaTotals.lean).
  GIVEN WITH THE SEED: the statements are not yours to turn. If you find one false, say at which input.
  Laid BY PROGRAM, IN A SANDBOX (cutbox-rows.mjs): the forced cells as the released guide's own fill.sh prints them over the translation 536caab2125098f9… (all of the seat's roots in one cut). By AI agents, Wed Nov 11 2026. No macro, syntax, notation, axiom, sorry.
-/
import Derived.Test.YtjneionmliknhaaChecked
import GoSem.Claim
import GoSem.ClaimJoined
import GoSem.ClaimMapViews
import Derived.JoinedTies
import Derived.KernelRfl
namespace Go.Proofs.Ytjneionmliknhaa
/- THE CELL 'sum', in the pinned program and in every row, IS THE sha256 OF THE DUMP (.gsa) THAT YtjneionmliknhaaProg.lean LOADS. Nothing in Lean hashes anything: it is a label: what it is worth is what the hold of that sum in a sandbox is worth. -/
noncomputable def Try.pinned : Pinned := { name := "ytjneionmliknhaa", sum := "536caab2125098f9b33c74b04f396a56ae6d8c53456d281fa0c67d8671de01aa", checked := Try.checked }
namespace Rows
def none {H : Type} : Left H := { results := [], args := [] }

/-- 'laws.FnExactIsValidTransform': WHATEVER THE INPUT: true; the input reads as it did. -/
def fnExactIsValidTransformSpec : ChangeSpec := { name := "fnExactIsValidTransform", fn := fun _ => fun
  | [d] => { results := [.lit (.bool true)], args := [d] }
  | _ => none }
def fnExactIsValidTransformRow : OpenClaim := { program := "ytjneionmliknhaa", sum := "536caab2125098f9b33c74b04f396a56ae6d8c53456d281fa0c67d8671de01aa", func := "loop.example/g00809/laws.FnExactIsValidTransform", spec := "fnExactIsValidTransform", apart := false }
def FnExactIsValidTransformSaid : Prop := fnExactIsValidTransformRow.holds Try.pinned (OpenSpec.ofChange fnExactIsValidTransformSpec)

/-- ITS FALSE NEIGHBOUR: 'it returns false'. Refute it at one input. -/
def fnExactIsValidTransformWrong : ChangeSpec := { name := "fnExactIsValidTransform", fn := fun _ => fun
  | [d] => { results := [.lit (.bool false)], args := [d] }
  | _ => none }
def FnExactIsValidTransformWrongFalsely : Prop := fnExactIsValidTransformRow.holds Try.pinned (OpenSpec.ofChange fnExactIsValidTransformWrong)

/-- 'laws.FnExactIdentity': WHATEVER THE INPUT: true; the input reads as it did. -/
def fnExactIdentitySpec : ChangeSpec := { name := "fnExactIdentity", fn := fun _ => fun
  | [] => { results := [.lit (.bool true)], args := [] }
  | _ => none }
def fnExactIdentityRow : OpenClaim := { program := "ytjneionmliknhaa", sum := "536caab2125098f9b33c74b04f396a56ae6d8c53456d281fa0c67d8671de01aa", func := "loop.example/g00809/laws.FnExactIdentity", spec := "fnExactIdentity", apart := false }
def FnExactIdentitySaid : Prop := fnExactIdentityRow.holds Try.pinned (OpenSpec.ofChange fnExactIdentitySpec)

/-- ITS FALSE NEIGHBOUR: 'it returns false'. Refute it at one input. -/
def fnExactIdentityWrong : ChangeSpec := { name := "fnExactIdentity", fn := fun _ => fun
  | [] => { results := [.lit (.bool false)], args := [] }
  | _ => none }
def FnExactIdentityWrongFalsely : Prop := fnExactIdentityRow.holds Try.pinned (OpenSpec.ofChange fnExactIdentityWrong)

/-- 'laws.FnExactApply': WHATEVER THE INPUT: true; the input reads as it did. -/
def fnExactApplySpec : ChangeSpec := { name := "fnExactApply", fn := fun _ => fun
  | [d1, d2] => { results := [.lit (.bool true)], args := [d1, d2] }
  | _ => none }
def fnExactApplyRow : OpenClaim := { program := "ytjneionmliknhaa", sum := "536caab2125098f9b33c74b04f396a56ae6d8c53456d281fa0c67d8671de01aa", func := "loop.example/g00809/laws.FnExactApply", spec := "fnExactApply", apart := false }
def FnExactApplySaid : Prop := fnExactApplyRow.holds Try.pinned (OpenSpec.ofChange fnExactApplySpec)

/-- ITS FALSE NEIGHBOUR: 'it returns false'. Refute it at one input. -/
def fnExactApplyWrong : ChangeSpec := { name := "fnExactApply", fn := fun _ => fun
  | [d1, d2] => { results := [.lit (.bool false)], args := [d1, d2] }
  | _ => none }
def FnExactApplyWrongFalsely : Prop := fnExactApplyRow.holds Try.pinned (OpenSpec.ofChange fnExactApplyWrong)

/-- 'laws.FnExactApplyAll': WHATEVER THE INPUT: true; the input reads as it did. -/
def fnExactApplyAllSpec : ChangeSpec := { name := "fnExactApplyAll", fn := fun _ => fun
  | [d1, d2] => { results := [.lit (.bool true)], args := [d1, d2] }
  | _ => none }
def fnExactApplyAllRow : OpenClaim := { program := "ytjneionmliknhaa", sum := "536caab2125098f9b33c74b04f396a56ae6d8c53456d281fa0c67d8671de01aa", func := "loop.example/g00809/laws.FnExactApplyAll", spec := "fnExactApplyAll", apart := false }
def FnExactApplyAllSaid : Prop := fnExactApplyAllRow.holds Try.pinned (OpenSpec.ofChange fnExactApplyAllSpec)

/-- ITS FALSE NEIGHBOUR: 'it returns false'. Refute it at one input. -/
def fnExactApplyAllWrong : ChangeSpec := { name := "fnExactApplyAll", fn := fun _ => fun
  | [d1, d2] => { results := [.lit (.bool false)], args := [d1, d2] }
  | _ => none }
def FnExactApplyAllWrongFalsely : Prop := fnExactApplyAllRow.holds Try.pinned (OpenSpec.ofChange fnExactApplyAllWrong)

/-- 'laws.FnExactQuarterTurn': WHATEVER THE INPUT: true; the input reads as it did. -/
def fnExactQuarterTurnSpec : ChangeSpec := { name := "fnExactQuarterTurn", fn := fun _ => fun
  | [d1, d2] => { results := [.lit (.bool true)], args := [d1, d2] }
  | _ => none }
def fnExactQuarterTurnRow : OpenClaim := { program := "ytjneionmliknhaa", sum := "536caab2125098f9b33c74b04f396a56ae6d8c53456d281fa0c67d8671de01aa", func := "loop.example/g00809/laws.FnExactQuarterTurn", spec := "fnExactQuarterTurn", apart := false }
def FnExactQuarterTurnSaid : Prop := fnExactQuarterTurnRow.holds Try.pinned (OpenSpec.ofChange fnExactQuarterTurnSpec)

/-- ITS FALSE NEIGHBOUR: 'it returns false'. Refute it at one input. -/
def fnExactQuarterTurnWrong : ChangeSpec := { name := "fnExactQuarterTurn", fn := fun _ => fun
  | [d1, d2] => { results := [.lit (.bool false)], args := [d1, d2] }
  | _ => none }
def FnExactQuarterTurnWrongFalsely : Prop := fnExactQuarterTurnRow.holds Try.pinned (OpenSpec.ofChange fnExactQuarterTurnWrong)

/-- 'laws.FnExactUniformScale': WHATEVER THE INPUT: true; the input reads as it did. -/
def fnExactUniformScaleSpec : ChangeSpec := { name := "fnExactUniformScale", fn := fun _ => fun
  | [d] => { results := [.lit (.bool true)], args := [d] }
  | _ => none }
def fnExactUniformScaleRow : OpenClaim := { program := "ytjneionmliknhaa", sum := "536caab2125098f9b33c74b04f396a56ae6d8c53456d281fa0c67d8671de01aa", func := "loop.example/g00809/laws.FnExactUniformScale", spec := "fnExactUniformScale", apart := false }
def FnExactUniformScaleSaid : Prop := fnExactUniformScaleRow.holds Try.pinned (OpenSpec.ofChange fnExactUniformScaleSpec)

/-- ITS FALSE NEIGHBOUR: 'it returns false'. Refute it at one input. -/
def fnExactUniformScaleWrong : ChangeSpec := { name := "fnExactUniformScale", fn := fun _ => fun
  | [d] => { results := [.lit (.bool false)], args := [d] }
  | _ => none }
def FnExactUniformScaleWrongFalsely : Prop := fnExactUniformScaleRow.holds Try.pinned (OpenSpec.ofChange fnExactUniformScaleWrong)

/-- 'laws.FnExactTranslation': WHATEVER THE INPUT: true; the input reads as it did. -/
def fnExactTranslationSpec : ChangeSpec := { name := "fnExactTranslation", fn := fun _ => fun
  | [d] => { results := [.lit (.bool true)], args := [d] }
  | _ => none }
def fnExactTranslationRow : OpenClaim := { program := "ytjneionmliknhaa", sum := "536caab2125098f9b33c74b04f396a56ae6d8c53456d281fa0c67d8671de01aa", func := "loop.example/g00809/laws.FnExactTranslation", spec := "fnExactTranslation", apart := false }
def FnExactTranslationSaid : Prop := fnExactTranslationRow.holds Try.pinned (OpenSpec.ofChange fnExactTranslationSpec)

/-- ITS FALSE NEIGHBOUR: 'it returns false'. Refute it at one input. -/
def fnExactTranslationWrong : ChangeSpec := { name := "fnExactTranslation", fn := fun _ => fun
  | [d] => { results := [.lit (.bool false)], args := [d] }
  | _ => none }
def FnExactTranslationWrongFalsely : Prop := fnExactTranslationRow.holds Try.pinned (OpenSpec.ofChange fnExactTranslationWrong)

/- THE SECOND FORM. 'bulk': how many values and letters a reading holds, each counted each time it is reached (what is shared counts as often as it is met; a slice's spare places count too). A statement '..UptoSaid' is the law's where the arguments, and the package variables that the reading takes, are together of bulk at most 1048576: NARROWER than '..Said'. Prove '..Said' where nothing that the law and all that it calls make is longer than what came in: it says more and counts as full. Else prove '..UptoSaid'. A law counts once. -/
mutual
def uptoBulk {H : Type} : DataW H → Nat
  | .lit (.string bytes) => bytes.length + 1
  | .lit _ => 1
  | .nil => 1
  | .ptr d => uptoBulk d + 1
  | .slice elems spare => uptoBulkAll elems + uptoBulkAll spare + 1
  | .agg parts => uptoBulkAll parts + 1
  | .iface _ d => uptoBulk d + 1
  | .map entries => uptoBulkEntries entries + 1
  | .held _ => 1
def uptoBulkAll {H : Type} : List (DataW H) → Nat
  | [] => 0
  | d :: r => uptoBulk d + uptoBulkAll r
def uptoBulkEntries {H : Type} : List (Lit × DataW H) → Nat
  | [] => 0
  | x :: r => uptoBulkEntry x + uptoBulkEntries r
def uptoBulkEntry {H : Type} : Lit × DataW H → Nat
  | (.string bytes, d) => bytes.length + uptoBulk d + 1
  | (_, d) => uptoBulk d + 1
 end
def uptoSmall : (H : Type) → List (DataW H) → Bool := fun _ ds => decide (uptoBulkAll ds ≤ 1048576)
def OpenSpec.upto (s : _root_.Go.ChangeSpec) : _root_.Go.OpenSpec := { _root_.Go.OpenSpec.ofChange s with cond := some uptoSmall }

/-- 'laws.FnExactIsValidTransform', WHERE WHAT IT READS IS OF BULK AT MOST 1048576: true; the input reads as it did. -/
def fnExactIsValidTransformUptoRow : OpenClaim := { program := "ytjneionmliknhaa", sum := "536caab2125098f9b33c74b04f396a56ae6d8c53456d281fa0c67d8671de01aa", func := "loop.example/g00809/laws.FnExactIsValidTransform", spec := "fnExactIsValidTransform", apart := false, narrowed := true }
def FnExactIsValidTransformUptoSaid : Prop := fnExactIsValidTransformUptoRow.holds Try.pinned (OpenSpec.upto fnExactIsValidTransformSpec)

/-- 'laws.FnExactIdentity', WHERE WHAT IT READS IS OF BULK AT MOST 1048576: true; the input reads as it did. -/
def fnExactIdentityUptoRow : OpenClaim := { program := "ytjneionmliknhaa", sum := "536caab2125098f9b33c74b04f396a56ae6d8c53456d281fa0c67d8671de01aa", func := "loop.example/g00809/laws.FnExactIdentity", spec := "fnExactIdentity", apart := false, narrowed := true }
def FnExactIdentityUptoSaid : Prop := fnExactIdentityUptoRow.holds Try.pinned (OpenSpec.upto fnExactIdentitySpec)

/-- 'laws.FnExactApply', WHERE WHAT IT READS IS OF BULK AT MOST 1048576: true; the input reads as it did. -/
def fnExactApplyUptoRow : OpenClaim := { program := "ytjneionmliknhaa", sum := "536caab2125098f9b33c74b04f396a56ae6d8c53456d281fa0c67d8671de01aa", func := "loop.example/g00809/laws.FnExactApply", spec := "fnExactApply", apart := false, narrowed := true }
def FnExactApplyUptoSaid : Prop := fnExactApplyUptoRow.holds Try.pinned (OpenSpec.upto fnExactApplySpec)

/-- 'laws.FnExactApplyAll', WHERE WHAT IT READS IS OF BULK AT MOST 1048576: true; the input reads as it did. -/
def fnExactApplyAllUptoRow : OpenClaim := { program := "ytjneionmliknhaa", sum := "536caab2125098f9b33c74b04f396a56ae6d8c53456d281fa0c67d8671de01aa", func := "loop.example/g00809/laws.FnExactApplyAll", spec := "fnExactApplyAll", apart := false, narrowed := true }
def FnExactApplyAllUptoSaid : Prop := fnExactApplyAllUptoRow.holds Try.pinned (OpenSpec.upto fnExactApplyAllSpec)

/-- 'laws.FnExactQuarterTurn', WHERE WHAT IT READS IS OF BULK AT MOST 1048576: true; the input reads as it did. -/
def fnExactQuarterTurnUptoRow : OpenClaim := { program := "ytjneionmliknhaa", sum := "536caab2125098f9b33c74b04f396a56ae6d8c53456d281fa0c67d8671de01aa", func := "loop.example/g00809/laws.FnExactQuarterTurn", spec := "fnExactQuarterTurn", apart := false, narrowed := true }
def FnExactQuarterTurnUptoSaid : Prop := fnExactQuarterTurnUptoRow.holds Try.pinned (OpenSpec.upto fnExactQuarterTurnSpec)

/-- 'laws.FnExactUniformScale', WHERE WHAT IT READS IS OF BULK AT MOST 1048576: true; the input reads as it did. -/
def fnExactUniformScaleUptoRow : OpenClaim := { program := "ytjneionmliknhaa", sum := "536caab2125098f9b33c74b04f396a56ae6d8c53456d281fa0c67d8671de01aa", func := "loop.example/g00809/laws.FnExactUniformScale", spec := "fnExactUniformScale", apart := false, narrowed := true }
def FnExactUniformScaleUptoSaid : Prop := fnExactUniformScaleUptoRow.holds Try.pinned (OpenSpec.upto fnExactUniformScaleSpec)

/-- 'laws.FnExactTranslation', WHERE WHAT IT READS IS OF BULK AT MOST 1048576: true; the input reads as it did. -/
def fnExactTranslationUptoRow : OpenClaim := { program := "ytjneionmliknhaa", sum := "536caab2125098f9b33c74b04f396a56ae6d8c53456d281fa0c67d8671de01aa", func := "loop.example/g00809/laws.FnExactTranslation", spec := "fnExactTranslation", apart := false, narrowed := true }
def FnExactTranslationUptoSaid : Prop := fnExactTranslationUptoRow.holds Try.pinned (OpenSpec.upto fnExactTranslationSpec)

end Rows
end Go.Proofs.Ytjneionmliknhaa
