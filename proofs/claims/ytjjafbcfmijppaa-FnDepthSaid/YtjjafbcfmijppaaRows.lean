/-
  No cell of these rows narrows 'for every input' (looked for: loops, veiled, ifaces, maps, wideKeys, modest, calm, conditions, laid).
  DERIVED. THE GIVEN ROWS OF THIS SEAT. 8 by the template 'for every input the law returns true; each argument reads behind the call as it read before'; 0 by the template 'total and deterministic' (their statements: YtjjafbcfmijppaaTotals.lean).
  GIVEN WITH THE SEED: the statements are not yours to turn. If you find one false, say at which input.
  Laid BY PROGRAM, IN A SANDBOX (cutbox-rows.mjs): the forced cells as the released guide's own fill.sh prints them over the translation ecc02eb3ef6e437f… (all of the seat's roots in one cut). By AI agents, Wed Nov 11 2026. No macro, syntax, notation, axiom, sorry.
-/
import Derived.Test.YtjjafbcfmijppaaChecked
import GoSem.Claim
import GoSem.ClaimJoined
import GoSem.ClaimMapViews
import Derived.JoinedTies
import Derived.KernelRfl
namespace Go.Proofs.Ytjjafbcfmijppaa
/- THE CELL 'sum', in the pinned program and in every row, IS THE sha256 OF THE DUMP (.gsa) THAT YtjjafbcfmijppaaProg.lean LOADS. Nothing in Lean hashes anything: it is a label: what it is worth is what the hold of that sum in a sandbox is worth. -/
noncomputable def Try.pinned : Pinned := { name := "ytjjafbcfmijppaa", sum := "ecc02eb3ef6e437f200f98a661b511061961bca9c311e88488a3e1d1ea1f33d0", checked := Try.checked }
namespace Rows
def none {H : Type} : Left H := { results := [], args := [] }

/-- 'laws.FnRaster': WHATEVER THE INPUT: true; the input reads as it did. -/
def fnRasterSpec : ChangeSpec := { name := "fnRaster", fn := fun _ => fun
  | [d] => { results := [.lit (.bool true)], args := [d] }
  | _ => none }
def fnRasterRow : OpenClaim := { program := "ytjjafbcfmijppaa", sum := "ecc02eb3ef6e437f200f98a661b511061961bca9c311e88488a3e1d1ea1f33d0", func := "loop.example/g00809/laws.FnRaster", spec := "fnRaster", unfollowed := true, recurses := true, apart := false }
def FnRasterSaid : Prop := fnRasterRow.holds Try.pinned (OpenSpec.ofChange fnRasterSpec)

/-- ITS FALSE NEIGHBOUR: 'it returns false'. Refute it at one input. -/
def fnRasterWrong : ChangeSpec := { name := "fnRaster", fn := fun _ => fun
  | [d] => { results := [.lit (.bool false)], args := [d] }
  | _ => none }
def FnRasterWrongFalsely : Prop := fnRasterRow.holds Try.pinned (OpenSpec.ofChange fnRasterWrong)

/-- 'laws.FnDepth': WHATEVER THE INPUT: true; the input reads as it did. -/
def fnDepthSpec : ChangeSpec := { name := "fnDepth", fn := fun _ => fun
  | [d] => { results := [.lit (.bool true)], args := [d] }
  | _ => none }
def fnDepthRow : OpenClaim := { program := "ytjjafbcfmijppaa", sum := "ecc02eb3ef6e437f200f98a661b511061961bca9c311e88488a3e1d1ea1f33d0", func := "loop.example/g00809/laws.FnDepth", spec := "fnDepth", unfollowed := true, recurses := true, apart := false }
def FnDepthSaid : Prop := fnDepthRow.holds Try.pinned (OpenSpec.ofChange fnDepthSpec)

/-- ITS FALSE NEIGHBOUR: 'it returns false'. Refute it at one input. -/
def fnDepthWrong : ChangeSpec := { name := "fnDepth", fn := fun _ => fun
  | [d] => { results := [.lit (.bool false)], args := [d] }
  | _ => none }
def FnDepthWrongFalsely : Prop := fnDepthRow.holds Try.pinned (OpenSpec.ofChange fnDepthWrong)

/-- 'laws.FnExactSignedArea2': WHATEVER THE INPUT: true; the input reads as it did. -/
def fnExactSignedArea2Spec : ChangeSpec := { name := "fnExactSignedArea2", fn := fun _ => fun
  | [d] => { results := [.lit (.bool true)], args := [d] }
  | _ => none }
def fnExactSignedArea2Row : OpenClaim := { program := "ytjjafbcfmijppaa", sum := "ecc02eb3ef6e437f200f98a661b511061961bca9c311e88488a3e1d1ea1f33d0", func := "loop.example/g00809/laws.FnExactSignedArea2", spec := "fnExactSignedArea2", unfollowed := true, recurses := true, apart := false }
def FnExactSignedArea2Said : Prop := fnExactSignedArea2Row.holds Try.pinned (OpenSpec.ofChange fnExactSignedArea2Spec)

/-- ITS FALSE NEIGHBOUR: 'it returns false'. Refute it at one input. -/
def fnExactSignedArea2Wrong : ChangeSpec := { name := "fnExactSignedArea2", fn := fun _ => fun
  | [d] => { results := [.lit (.bool false)], args := [d] }
  | _ => none }
def FnExactSignedArea2WrongFalsely : Prop := fnExactSignedArea2Row.holds Try.pinned (OpenSpec.ofChange fnExactSignedArea2Wrong)

/-- 'laws.FnExactFlipTriangle': WHATEVER THE INPUT: true; the input reads as it did. -/
def fnExactFlipTriangleSpec : ChangeSpec := { name := "fnExactFlipTriangle", fn := fun _ => fun
  | [d] => { results := [.lit (.bool true)], args := [d] }
  | _ => none }
def fnExactFlipTriangleRow : OpenClaim := { program := "ytjjafbcfmijppaa", sum := "ecc02eb3ef6e437f200f98a661b511061961bca9c311e88488a3e1d1ea1f33d0", func := "loop.example/g00809/laws.FnExactFlipTriangle", spec := "fnExactFlipTriangle", apart := false }
def FnExactFlipTriangleSaid : Prop := fnExactFlipTriangleRow.holds Try.pinned (OpenSpec.ofChange fnExactFlipTriangleSpec)

/-- ITS FALSE NEIGHBOUR: 'it returns false'. Refute it at one input. -/
def fnExactFlipTriangleWrong : ChangeSpec := { name := "fnExactFlipTriangle", fn := fun _ => fun
  | [d] => { results := [.lit (.bool false)], args := [d] }
  | _ => none }
def FnExactFlipTriangleWrongFalsely : Prop := fnExactFlipTriangleRow.holds Try.pinned (OpenSpec.ofChange fnExactFlipTriangleWrong)

/-- 'laws.FnExactCovers': WHATEVER THE INPUT: true; the input reads as it did. -/
def fnExactCoversSpec : ChangeSpec := { name := "fnExactCovers", fn := fun _ => fun
  | [d1, d2, d3] => { results := [.lit (.bool true)], args := [d1, d2, d3] }
  | _ => none }
def fnExactCoversRow : OpenClaim := { program := "ytjjafbcfmijppaa", sum := "ecc02eb3ef6e437f200f98a661b511061961bca9c311e88488a3e1d1ea1f33d0", func := "loop.example/g00809/laws.FnExactCovers", spec := "fnExactCovers", unfollowed := true, recurses := true, apart := false }
def FnExactCoversSaid : Prop := fnExactCoversRow.holds Try.pinned (OpenSpec.ofChange fnExactCoversSpec)

/-- ITS FALSE NEIGHBOUR: 'it returns false'. Refute it at one input. -/
def fnExactCoversWrong : ChangeSpec := { name := "fnExactCovers", fn := fun _ => fun
  | [d1, d2, d3] => { results := [.lit (.bool false)], args := [d1, d2, d3] }
  | _ => none }
def FnExactCoversWrongFalsely : Prop := fnExactCoversRow.holds Try.pinned (OpenSpec.ofChange fnExactCoversWrong)

/-- 'laws.FnExactDepthAt': WHATEVER THE INPUT: true; the input reads as it did. -/
def fnExactDepthAtSpec : ChangeSpec := { name := "fnExactDepthAt", fn := fun _ => fun
  | [d1, d2, d3] => { results := [.lit (.bool true)], args := [d1, d2, d3] }
  | _ => none }
def fnExactDepthAtRow : OpenClaim := { program := "ytjjafbcfmijppaa", sum := "ecc02eb3ef6e437f200f98a661b511061961bca9c311e88488a3e1d1ea1f33d0", func := "loop.example/g00809/laws.FnExactDepthAt", spec := "fnExactDepthAt", unfollowed := true, recurses := true, apart := false }
def FnExactDepthAtSaid : Prop := fnExactDepthAtRow.holds Try.pinned (OpenSpec.ofChange fnExactDepthAtSpec)

/-- ITS FALSE NEIGHBOUR: 'it returns false'. Refute it at one input. -/
def fnExactDepthAtWrong : ChangeSpec := { name := "fnExactDepthAt", fn := fun _ => fun
  | [d1, d2, d3] => { results := [.lit (.bool false)], args := [d1, d2, d3] }
  | _ => none }
def FnExactDepthAtWrongFalsely : Prop := fnExactDepthAtRow.holds Try.pinned (OpenSpec.ofChange fnExactDepthAtWrong)

/-- 'laws.FnExactTriangleBounds': WHATEVER THE INPUT: true; the input reads as it did. -/
def fnExactTriangleBoundsSpec : ChangeSpec := { name := "fnExactTriangleBounds", fn := fun _ => fun
  | [d] => { results := [.lit (.bool true)], args := [d] }
  | _ => none }
def fnExactTriangleBoundsRow : OpenClaim := { program := "ytjjafbcfmijppaa", sum := "ecc02eb3ef6e437f200f98a661b511061961bca9c311e88488a3e1d1ea1f33d0", func := "loop.example/g00809/laws.FnExactTriangleBounds", spec := "fnExactTriangleBounds", apart := false }
def FnExactTriangleBoundsSaid : Prop := fnExactTriangleBoundsRow.holds Try.pinned (OpenSpec.ofChange fnExactTriangleBoundsSpec)

/-- ITS FALSE NEIGHBOUR: 'it returns false'. Refute it at one input. -/
def fnExactTriangleBoundsWrong : ChangeSpec := { name := "fnExactTriangleBounds", fn := fun _ => fun
  | [d] => { results := [.lit (.bool false)], args := [d] }
  | _ => none }
def FnExactTriangleBoundsWrongFalsely : Prop := fnExactTriangleBoundsRow.holds Try.pinned (OpenSpec.ofChange fnExactTriangleBoundsWrong)

/-- 'laws.FnExactSameTriangle': WHATEVER THE INPUT: true; the input reads as it did. -/
def fnExactSameTriangleSpec : ChangeSpec := { name := "fnExactSameTriangle", fn := fun _ => fun
  | [d1, d2] => { results := [.lit (.bool true)], args := [d1, d2] }
  | _ => none }
def fnExactSameTriangleRow : OpenClaim := { program := "ytjjafbcfmijppaa", sum := "ecc02eb3ef6e437f200f98a661b511061961bca9c311e88488a3e1d1ea1f33d0", func := "loop.example/g00809/laws.FnExactSameTriangle", spec := "fnExactSameTriangle", apart := false }
def FnExactSameTriangleSaid : Prop := fnExactSameTriangleRow.holds Try.pinned (OpenSpec.ofChange fnExactSameTriangleSpec)

/-- ITS FALSE NEIGHBOUR: 'it returns false'. Refute it at one input. -/
def fnExactSameTriangleWrong : ChangeSpec := { name := "fnExactSameTriangle", fn := fun _ => fun
  | [d1, d2] => { results := [.lit (.bool false)], args := [d1, d2] }
  | _ => none }
def FnExactSameTriangleWrongFalsely : Prop := fnExactSameTriangleRow.holds Try.pinned (OpenSpec.ofChange fnExactSameTriangleWrong)

/- THE SECOND FORM. 'bulk': how many values and letters a reading holds, each counted each time it is reached (what is shared counts as often as it is met; a slice's spare places count too). A statement '..UptoSaid' is the law's where the arguments, and the package variables that the reading takes, are together of bulk at most 1048576: NARROWER than '..Said'. Prove '..Said' where nothing that the law and all that it calls make is longer than what came in: it says more and counts as full. Else prove '..UptoSaid'. A law counts once. -/
mutual
def uptoBulk {H : Type} : DataW H → Nat
  | .lit (.string bytes) => bytes.length + 1
  | .lit _ => 1
  | .nil => 1
  | .ptr d => uptoBulk d + 1
  | .slice elems spare => uptoBulkAll elems + uptoBulkAll spare + 1
  | .agg parts => uptoBulkAll parts + 1
  | .iface _ d => uptoBulk d + 1
  | .map entries => uptoBulkEntries entries + 1
  | .held _ => 1
def uptoBulkAll {H : Type} : List (DataW H) → Nat
  | [] => 0
  | d :: r => uptoBulk d + uptoBulkAll r
def uptoBulkEntries {H : Type} : List (Lit × DataW H) → Nat
  | [] => 0
  | x :: r => uptoBulkEntry x + uptoBulkEntries r
def uptoBulkEntry {H : Type} : Lit × DataW H → Nat
  | (.string bytes, d) => bytes.length + uptoBulk d + 1
  | (_, d) => uptoBulk d + 1
 end
def uptoSmall : (H : Type) → List (DataW H) → Bool := fun _ ds => decide (uptoBulkAll ds ≤ 1048576)
def OpenSpec.upto (s : _root_.Go.ChangeSpec) : _root_.Go.OpenSpec := { _root_.Go.OpenSpec.ofChange s with cond := some uptoSmall }

/-- 'laws.FnRaster', WHERE WHAT IT READS IS OF BULK AT MOST 1048576: true; the input reads as it did. -/
def fnRasterUptoRow : OpenClaim := { program := "ytjjafbcfmijppaa", sum := "ecc02eb3ef6e437f200f98a661b511061961bca9c311e88488a3e1d1ea1f33d0", func := "loop.example/g00809/laws.FnRaster", spec := "fnRaster", unfollowed := true, recurses := true, apart := false, narrowed := true }
def FnRasterUptoSaid : Prop := fnRasterUptoRow.holds Try.pinned (OpenSpec.upto fnRasterSpec)

/-- 'laws.FnDepth', WHERE WHAT IT READS IS OF BULK AT MOST 1048576: true; the input reads as it did. -/
def fnDepthUptoRow : OpenClaim := { program := "ytjjafbcfmijppaa", sum := "ecc02eb3ef6e437f200f98a661b511061961bca9c311e88488a3e1d1ea1f33d0", func := "loop.example/g00809/laws.FnDepth", spec := "fnDepth", unfollowed := true, recurses := true, apart := false, narrowed := true }
def FnDepthUptoSaid : Prop := fnDepthUptoRow.holds Try.pinned (OpenSpec.upto fnDepthSpec)

/-- 'laws.FnExactSignedArea2', WHERE WHAT IT READS IS OF BULK AT MOST 1048576: true; the input reads as it did. -/
def fnExactSignedArea2UptoRow : OpenClaim := { program := "ytjjafbcfmijppaa", sum := "ecc02eb3ef6e437f200f98a661b511061961bca9c311e88488a3e1d1ea1f33d0", func := "loop.example/g00809/laws.FnExactSignedArea2", spec := "fnExactSignedArea2", unfollowed := true, recurses := true, apart := false, narrowed := true }
def FnExactSignedArea2UptoSaid : Prop := fnExactSignedArea2UptoRow.holds Try.pinned (OpenSpec.upto fnExactSignedArea2Spec)

/-- 'laws.FnExactFlipTriangle', WHERE WHAT IT READS IS OF BULK AT MOST 1048576: true; the input reads as it did. -/
def fnExactFlipTriangleUptoRow : OpenClaim := { program := "ytjjafbcfmijppaa", sum := "ecc02eb3ef6e437f200f98a661b511061961bca9c311e88488a3e1d1ea1f33d0", func := "loop.example/g00809/laws.FnExactFlipTriangle", spec := "fnExactFlipTriangle", apart := false, narrowed := true }
def FnExactFlipTriangleUptoSaid : Prop := fnExactFlipTriangleUptoRow.holds Try.pinned (OpenSpec.upto fnExactFlipTriangleSpec)

/-- 'laws.FnExactCovers', WHERE WHAT IT READS IS OF BULK AT MOST 1048576: true; the input reads as it did. -/
def fnExactCoversUptoRow : OpenClaim := { program := "ytjjafbcfmijppaa", sum := "ecc02eb3ef6e437f200f98a661b511061961bca9c311e88488a3e1d1ea1f33d0", func := "loop.example/g00809/laws.FnExactCovers", spec := "fnExactCovers", unfollowed := true, recurses := true, apart := false, narrowed := true }
def FnExactCoversUptoSaid : Prop := fnExactCoversUptoRow.holds Try.pinned (OpenSpec.upto fnExactCoversSpec)

/-- 'laws.FnExactDepthAt', WHERE WHAT IT READS IS OF BULK AT MOST 1048576: true; the input reads as it did. -/
def fnExactDepthAtUptoRow : OpenClaim := { program := "ytjjafbcfmijppaa", sum := "ecc02eb3ef6e437f200f98a661b511061961bca9c311e88488a3e1d1ea1f33d0", func := "loop.example/g00809/laws.FnExactDepthAt", spec := "fnExactDepthAt", unfollowed := true, recurses := true, apart := false, narrowed := true }
def FnExactDepthAtUptoSaid : Prop := fnExactDepthAtUptoRow.holds Try.pinned (OpenSpec.upto fnExactDepthAtSpec)

/-- 'laws.FnExactTriangleBounds', WHERE WHAT IT READS IS OF BULK AT MOST 1048576: true; the input reads as it did. -/
def fnExactTriangleBoundsUptoRow : OpenClaim := { program := "ytjjafbcfmijppaa", sum := "ecc02eb3ef6e437f200f98a661b511061961bca9c311e88488a3e1d1ea1f33d0", func := "loop.example/g00809/laws.FnExactTriangleBounds", spec := "fnExactTriangleBounds", apart := false, narrowed := true }
def FnExactTriangleBoundsUptoSaid : Prop := fnExactTriangleBoundsUptoRow.holds Try.pinned (OpenSpec.upto fnExactTriangleBoundsSpec)

/-- 'laws.FnExactSameTriangle', WHERE WHAT IT READS IS OF BULK AT MOST 1048576: true; the input reads as it did. -/
def fnExactSameTriangleUptoRow : OpenClaim := { program := "ytjjafbcfmijppaa", sum := "ecc02eb3ef6e437f200f98a661b511061961bca9c311e88488a3e1d1ea1f33d0", func := "loop.example/g00809/laws.FnExactSameTriangle", spec := "fnExactSameTriangle", apart := false, narrowed := true }
def FnExactSameTriangleUptoSaid : Prop := fnExactSameTriangleUptoRow.holds Try.pinned (OpenSpec.upto fnExactSameTriangleSpec)

end Rows
end Go.Proofs.Ytjjafbcfmijppaa
