/-
  No cell of these rows narrows 'for every input' (looked for: loops, veiled, ifaces, maps, wideKeys, modest, calm, conditions, laid).
  DERIVED. THE GIVEN ROWS OF THIS SEAT. 4 by the template 'for every input the law returns true; each argument reads behind the call as it read before'; 0 by the template 'total and deterministic' (their statements: YtlaghpcdaolofaaTotals.lean).
  GIVEN WITH THE SEED: the statements are not yours to turn. If you find one false, say at which input.
  Laid BY PROGRAM, IN A SANDBOX (cutbox-rows.mjs): the forced cells as the released guide's own fill.sh prints them over the translation f5479d1287eda2a5… (all of the seat's roots in one cut). By AI agents, Wed Nov 11 2026. No macro, syntax, notation, axiom, sorry.
-/
import Derived.Test.YtlaghpcdaolofaaChecked
import GoSem.Claim
import GoSem.ClaimJoined
import GoSem.ClaimMapViews
import Derived.JoinedTies
import Derived.KernelRfl
namespace Go.Proofs.Ytlaghpcdaolofaa
/- THE CELL 'sum', in the pinned program and in every row, IS THE sha256 OF THE DUMP (.gsa) THAT YtlaghpcdaolofaaProg.lean LOADS. Nothing in Lean hashes anything: it is a label: what it is worth is what the hold of that sum in a sandbox is worth. -/
noncomputable def Try.pinned : Pinned := { name := "ytlaghpcdaolofaa", sum := "f5479d1287eda2a5acbb189ec05706c1b1b36f4d75eb5efdc73a283f5beeb24c", checked := Try.checked }
namespace Rows
def none {H : Type} : Left H := { results := [], args := [] }

/-- 'laws.FnExactIsValidCamera': WHATEVER THE INPUT: true; the input reads as it did. -/
def fnExactIsValidCameraSpec : ChangeSpec := { name := "fnExactIsValidCamera", fn := fun _ => fun
  | [d] => { results := [.lit (.bool true)], args := [d] }
  | _ => none }
def fnExactIsValidCameraRow : OpenClaim := { program := "ytlaghpcdaolofaa", sum := "f5479d1287eda2a5acbb189ec05706c1b1b36f4d75eb5efdc73a283f5beeb24c", func := "loop.example/g00809/laws.FnExactIsValidCamera", spec := "fnExactIsValidCamera", apart := false }
def FnExactIsValidCameraSaid : Prop := fnExactIsValidCameraRow.holds Try.pinned (OpenSpec.ofChange fnExactIsValidCameraSpec)

/-- ITS FALSE NEIGHBOUR: 'it returns false'. Refute it at one input. -/
def fnExactIsValidCameraWrong : ChangeSpec := { name := "fnExactIsValidCamera", fn := fun _ => fun
  | [d] => { results := [.lit (.bool false)], args := [d] }
  | _ => none }
def FnExactIsValidCameraWrongFalsely : Prop := fnExactIsValidCameraRow.holds Try.pinned (OpenSpec.ofChange fnExactIsValidCameraWrong)

/-- 'laws.FnExactProject': WHATEVER THE INPUT: true; the input reads as it did. -/
def fnExactProjectSpec : ChangeSpec := { name := "fnExactProject", fn := fun _ => fun
  | [d1, d2, d3, d4] => { results := [.lit (.bool true)], args := [d1, d2, d3, d4] }
  | _ => none }
def fnExactProjectRow : OpenClaim := { program := "ytlaghpcdaolofaa", sum := "f5479d1287eda2a5acbb189ec05706c1b1b36f4d75eb5efdc73a283f5beeb24c", func := "loop.example/g00809/laws.FnExactProject", spec := "fnExactProject", unfollowed := true, recurses := true, apart := false }
def FnExactProjectSaid : Prop := fnExactProjectRow.holds Try.pinned (OpenSpec.ofChange fnExactProjectSpec)

/-- ITS FALSE NEIGHBOUR: 'it returns false'. Refute it at one input. -/
def fnExactProjectWrong : ChangeSpec := { name := "fnExactProject", fn := fun _ => fun
  | [d1, d2, d3, d4] => { results := [.lit (.bool false)], args := [d1, d2, d3, d4] }
  | _ => none }
def FnExactProjectWrongFalsely : Prop := fnExactProjectRow.holds Try.pinned (OpenSpec.ofChange fnExactProjectWrong)

/-- 'laws.FnExactPixelAt': WHATEVER THE INPUT: true; the input reads as it did. -/
def fnExactPixelAtSpec : ChangeSpec := { name := "fnExactPixelAt", fn := fun _ => fun
  | [d1, d2, d3] => { results := [.lit (.bool true)], args := [d1, d2, d3] }
  | _ => none }
def fnExactPixelAtRow : OpenClaim := { program := "ytlaghpcdaolofaa", sum := "f5479d1287eda2a5acbb189ec05706c1b1b36f4d75eb5efdc73a283f5beeb24c", func := "loop.example/g00809/laws.FnExactPixelAt", spec := "fnExactPixelAt", apart := false }
def FnExactPixelAtSaid : Prop := fnExactPixelAtRow.holds Try.pinned (OpenSpec.ofChange fnExactPixelAtSpec)

/-- ITS FALSE NEIGHBOUR: 'it returns false'. Refute it at one input. -/
def fnExactPixelAtWrong : ChangeSpec := { name := "fnExactPixelAt", fn := fun _ => fun
  | [d1, d2, d3] => { results := [.lit (.bool false)], args := [d1, d2, d3] }
  | _ => none }
def FnExactPixelAtWrongFalsely : Prop := fnExactPixelAtRow.holds Try.pinned (OpenSpec.ofChange fnExactPixelAtWrong)

/-- 'laws.FnExactViewBounds': WHATEVER THE INPUT: true; the input reads as it did. -/
def fnExactViewBoundsSpec : ChangeSpec := { name := "fnExactViewBounds", fn := fun _ => fun
  | [d] => { results := [.lit (.bool true)], args := [d] }
  | _ => none }
def fnExactViewBoundsRow : OpenClaim := { program := "ytlaghpcdaolofaa", sum := "f5479d1287eda2a5acbb189ec05706c1b1b36f4d75eb5efdc73a283f5beeb24c", func := "loop.example/g00809/laws.FnExactViewBounds", spec := "fnExactViewBounds", apart := false }
def FnExactViewBoundsSaid : Prop := fnExactViewBoundsRow.holds Try.pinned (OpenSpec.ofChange fnExactViewBoundsSpec)

/-- ITS FALSE NEIGHBOUR: 'it returns false'. Refute it at one input. -/
def fnExactViewBoundsWrong : ChangeSpec := { name := "fnExactViewBounds", fn := fun _ => fun
  | [d] => { results := [.lit (.bool false)], args := [d] }
  | _ => none }
def FnExactViewBoundsWrongFalsely : Prop := fnExactViewBoundsRow.holds Try.pinned (OpenSpec.ofChange fnExactViewBoundsWrong)

/- THE SECOND FORM. 'bulk': how many values and letters a reading holds, each counted each time it is reached (what is shared counts as often as it is met; a slice's spare places count too). A statement '..UptoSaid' is the law's where the arguments, and the package variables that the reading takes, are together of bulk at most 1048576: NARROWER than '..Said'. Prove '..Said' where nothing that the law and all that it calls make is longer than what came in: it says more and counts as full. Else prove '..UptoSaid'. A law counts once. -/
mutual
def uptoBulk {H : Type} : DataW H → Nat
  | .lit (.string bytes) => bytes.length + 1
  | .lit _ => 1
  | .nil => 1
  | .ptr d => uptoBulk d + 1
  | .slice elems spare => uptoBulkAll elems + uptoBulkAll spare + 1
  | .agg parts => uptoBulkAll parts + 1
  | .iface _ d => uptoBulk d + 1
  | .map entries => uptoBulkEntries entries + 1
  | .held _ => 1
def uptoBulkAll {H : Type} : List (DataW H) → Nat
  | [] => 0
  | d :: r => uptoBulk d + uptoBulkAll r
def uptoBulkEntries {H : Type} : List (Lit × DataW H) → Nat
  | [] => 0
  | x :: r => uptoBulkEntry x + uptoBulkEntries r
def uptoBulkEntry {H : Type} : Lit × DataW H → Nat
  | (.string bytes, d) => bytes.length + uptoBulk d + 1
  | (_, d) => uptoBulk d + 1
 end
def uptoSmall : (H : Type) → List (DataW H) → Bool := fun _ ds => decide (uptoBulkAll ds ≤ 1048576)
def OpenSpec.upto (s : _root_.Go.ChangeSpec) : _root_.Go.OpenSpec := { _root_.Go.OpenSpec.ofChange s with cond := some uptoSmall }

/-- 'laws.FnExactIsValidCamera', WHERE WHAT IT READS IS OF BULK AT MOST 1048576: true; the input reads as it did. -/
def fnExactIsValidCameraUptoRow : OpenClaim := { program := "ytlaghpcdaolofaa", sum := "f5479d1287eda2a5acbb189ec05706c1b1b36f4d75eb5efdc73a283f5beeb24c", func := "loop.example/g00809/laws.FnExactIsValidCamera", spec := "fnExactIsValidCamera", apart := false, narrowed := true }
def FnExactIsValidCameraUptoSaid : Prop := fnExactIsValidCameraUptoRow.holds Try.pinned (OpenSpec.upto fnExactIsValidCameraSpec)

/-- 'laws.FnExactProject', WHERE WHAT IT READS IS OF BULK AT MOST 1048576: true; the input reads as it did. -/
def fnExactProjectUptoRow : OpenClaim := { program := "ytlaghpcdaolofaa", sum := "f5479d1287eda2a5acbb189ec05706c1b1b36f4d75eb5efdc73a283f5beeb24c", func := "loop.example/g00809/laws.FnExactProject", spec := "fnExactProject", unfollowed := true, recurses := true, apart := false, narrowed := true }
def FnExactProjectUptoSaid : Prop := fnExactProjectUptoRow.holds Try.pinned (OpenSpec.upto fnExactProjectSpec)

/-- 'laws.FnExactPixelAt', WHERE WHAT IT READS IS OF BULK AT MOST 1048576: true; the input reads as it did. -/
def fnExactPixelAtUptoRow : OpenClaim := { program := "ytlaghpcdaolofaa", sum := "f5479d1287eda2a5acbb189ec05706c1b1b36f4d75eb5efdc73a283f5beeb24c", func := "loop.example/g00809/laws.FnExactPixelAt", spec := "fnExactPixelAt", apart := false, narrowed := true }
def FnExactPixelAtUptoSaid : Prop := fnExactPixelAtUptoRow.holds Try.pinned (OpenSpec.upto fnExactPixelAtSpec)

/-- 'laws.FnExactViewBounds', WHERE WHAT IT READS IS OF BULK AT MOST 1048576: true; the input reads as it did. -/
def fnExactViewBoundsUptoRow : OpenClaim := { program := "ytlaghpcdaolofaa", sum := "f5479d1287eda2a5acbb189ec05706c1b1b36f4d75eb5efdc73a283f5beeb24c", func := "loop.example/g00809/laws.FnExactViewBounds", spec := "fnExactViewBounds", apart := false, narrowed := true }
def FnExactViewBoundsUptoSaid : Prop := fnExactViewBoundsUptoRow.holds Try.pinned (OpenSpec.upto fnExactViewBoundsSpec)

end Rows
end Go.Proofs.Ytlaghpcdaolofaa
