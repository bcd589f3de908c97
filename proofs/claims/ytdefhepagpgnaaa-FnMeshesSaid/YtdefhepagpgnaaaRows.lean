/-
  No cell of these rows narrows 'for every input' (looked for: loops, veiled, ifaces, maps, wideKeys, modest, calm, conditions, laid).
  DERIVED. THE GIVEN ROWS OF THIS SEAT. 6 by the template 'for every input the law returns true; each argument reads behind the call as it read before'; 0 by the template 'total and deterministic' (their statements: YtdefhepagpgnaaaTotals.lean).
  GIVEN WITH THE SEED: the statements are not yours to turn. If you find one false, say at which input.
  Laid BY PROGRAM, IN A SANDBOX (cutbox-rows.mjs): the forced cells as the released guide's own fill.sh prints them over the translation b3cce93f5f8bfb97… (all of the seat's roots in one cut). By AI agents, Wed Nov 11 2026. No macro, syntax, notation, axiom, sorry.
-/
import Derived.Test.YtdefhepagpgnaaaChecked
import GoSem.Claim
import GoSem.ClaimJoined
import GoSem.ClaimMapViews
import Derived.JoinedTies
import Derived.KernelRfl
namespace Go.Proofs.Ytdefhepagpgnaaa
/- THE CELL 'sum', in the pinned program and in every row, IS THE sha256 OF THE DUMP (.gsa) THAT YtdefhepagpgnaaaProg.lean LOADS. Nothing in Lean hashes anything: it is a label: what it is worth is what the hold of that sum in a sandbox is worth. -/
noncomputable def Try.pinned : Pinned := { name := "ytdefhepagpgnaaa", sum := "b3cce93f5f8bfb97cf865082365f032330e25f551e0b060c98ad0db10993f4ae", checked := Try.checked }
namespace Rows
def none {H : Type} : Left H := { results := [], args := [] }

/-- 'laws.FnMeshes': WHATEVER THE INPUT: true; the input reads as it did. -/
def fnMeshesSpec : ChangeSpec := { name := "fnMeshes", fn := fun _ => fun
  | [d] => { results := [.lit (.bool true)], args := [d] }
  | _ => none }
def fnMeshesRow : OpenClaim := { program := "ytdefhepagpgnaaa", sum := "b3cce93f5f8bfb97cf865082365f032330e25f551e0b060c98ad0db10993f4ae", func := "loop.example/g00809/laws.FnMeshes", spec := "fnMeshes", unfollowed := true, recurses := true, plainKeys := false, apart := false }
def FnMeshesSaid : Prop := fnMeshesRow.holds Try.pinned (OpenSpec.ofChange fnMeshesSpec)

/-- ITS FALSE NEIGHBOUR: 'it returns false'. Refute it at one input. -/
def fnMeshesWrong : ChangeSpec := { name := "fnMeshes", fn := fun _ => fun
  | [d] => { results := [.lit (.bool false)], args := [d] }
  | _ => none }
def FnMeshesWrongFalsely : Prop := fnMeshesRow.holds Try.pinned (OpenSpec.ofChange fnMeshesWrong)

/-- 'laws.FnHull': WHATEVER THE INPUT: true; the input reads as it did. -/
def fnHullSpec : ChangeSpec := { name := "fnHull", fn := fun _ => fun
  | [d] => { results := [.lit (.bool true)], args := [d] }
  | _ => none }
def fnHullRow : OpenClaim := { program := "ytdefhepagpgnaaa", sum := "b3cce93f5f8bfb97cf865082365f032330e25f551e0b060c98ad0db10993f4ae", func := "loop.example/g00809/laws.FnHull", spec := "fnHull", unfollowed := true, recurses := true, plainKeys := false, apart := false }
def FnHullSaid : Prop := fnHullRow.holds Try.pinned (OpenSpec.ofChange fnHullSpec)

/-- ITS FALSE NEIGHBOUR: 'it returns false'. Refute it at one input. -/
def fnHullWrong : ChangeSpec := { name := "fnHull", fn := fun _ => fun
  | [d] => { results := [.lit (.bool false)], args := [d] }
  | _ => none }
def FnHullWrongFalsely : Prop := fnHullRow.holds Try.pinned (OpenSpec.ofChange fnHullWrong)

/-- 'laws.FnExactFacePoint': WHATEVER THE INPUT: true; the input reads as it did. -/
def fnExactFacePointSpec : ChangeSpec := { name := "fnExactFacePoint", fn := fun _ => fun
  | [d1, d2] => { results := [.lit (.bool true)], args := [d1, d2] }
  | _ => none }
def fnExactFacePointRow : OpenClaim := { program := "ytdefhepagpgnaaa", sum := "b3cce93f5f8bfb97cf865082365f032330e25f551e0b060c98ad0db10993f4ae", func := "loop.example/g00809/laws.FnExactFacePoint", spec := "fnExactFacePoint", unfollowed := true, recurses := true, plainKeys := false, apart := false }
def FnExactFacePointSaid : Prop := fnExactFacePointRow.holds Try.pinned (OpenSpec.ofChange fnExactFacePointSpec)

/-- ITS FALSE NEIGHBOUR: 'it returns false'. Refute it at one input. -/
def fnExactFacePointWrong : ChangeSpec := { name := "fnExactFacePoint", fn := fun _ => fun
  | [d1, d2] => { results := [.lit (.bool false)], args := [d1, d2] }
  | _ => none }
def FnExactFacePointWrongFalsely : Prop := fnExactFacePointRow.holds Try.pinned (OpenSpec.ofChange fnExactFacePointWrong)

/-- 'laws.FnExactEdgePoint': WHATEVER THE INPUT: true; the input reads as it did. -/
def fnExactEdgePointSpec : ChangeSpec := { name := "fnExactEdgePoint", fn := fun _ => fun
  | [d1, d2, d3] => { results := [.lit (.bool true)], args := [d1, d2, d3] }
  | _ => none }
def fnExactEdgePointRow : OpenClaim := { program := "ytdefhepagpgnaaa", sum := "b3cce93f5f8bfb97cf865082365f032330e25f551e0b060c98ad0db10993f4ae", func := "loop.example/g00809/laws.FnExactEdgePoint", spec := "fnExactEdgePoint", unfollowed := true, recurses := true, plainKeys := false, apart := false }
def FnExactEdgePointSaid : Prop := fnExactEdgePointRow.holds Try.pinned (OpenSpec.ofChange fnExactEdgePointSpec)

/-- ITS FALSE NEIGHBOUR: 'it returns false'. Refute it at one input. -/
def fnExactEdgePointWrong : ChangeSpec := { name := "fnExactEdgePoint", fn := fun _ => fun
  | [d1, d2, d3] => { results := [.lit (.bool false)], args := [d1, d2, d3] }
  | _ => none }
def FnExactEdgePointWrongFalsely : Prop := fnExactEdgePointRow.holds Try.pinned (OpenSpec.ofChange fnExactEdgePointWrong)

/-- 'laws.FnExactVertexPoint': WHATEVER THE INPUT: true; the input reads as it did. -/
def fnExactVertexPointSpec : ChangeSpec := { name := "fnExactVertexPoint", fn := fun _ => fun
  | [d1, d2] => { results := [.lit (.bool true)], args := [d1, d2] }
  | _ => none }
def fnExactVertexPointRow : OpenClaim := { program := "ytdefhepagpgnaaa", sum := "b3cce93f5f8bfb97cf865082365f032330e25f551e0b060c98ad0db10993f4ae", func := "loop.example/g00809/laws.FnExactVertexPoint", spec := "fnExactVertexPoint", unfollowed := true, recurses := true, plainKeys := false, apart := false }
def FnExactVertexPointSaid : Prop := fnExactVertexPointRow.holds Try.pinned (OpenSpec.ofChange fnExactVertexPointSpec)

/-- ITS FALSE NEIGHBOUR: 'it returns false'. Refute it at one input. -/
def fnExactVertexPointWrong : ChangeSpec := { name := "fnExactVertexPoint", fn := fun _ => fun
  | [d1, d2] => { results := [.lit (.bool false)], args := [d1, d2] }
  | _ => none }
def FnExactVertexPointWrongFalsely : Prop := fnExactVertexPointRow.holds Try.pinned (OpenSpec.ofChange fnExactVertexPointWrong)

/-- 'laws.FnExactNeighbors': WHATEVER THE INPUT: true; the input reads as it did. -/
def fnExactNeighborsSpec : ChangeSpec := { name := "fnExactNeighbors", fn := fun _ => fun
  | [d1, d2] => { results := [.lit (.bool true)], args := [d1, d2] }
  | _ => none }
def fnExactNeighborsRow : OpenClaim := { program := "ytdefhepagpgnaaa", sum := "b3cce93f5f8bfb97cf865082365f032330e25f551e0b060c98ad0db10993f4ae", func := "loop.example/g00809/laws.FnExactNeighbors", spec := "fnExactNeighbors", unfollowed := true, recurses := true, plainKeys := false, apart := false }
def FnExactNeighborsSaid : Prop := fnExactNeighborsRow.holds Try.pinned (OpenSpec.ofChange fnExactNeighborsSpec)

/-- ITS FALSE NEIGHBOUR: 'it returns false'. Refute it at one input. -/
def fnExactNeighborsWrong : ChangeSpec := { name := "fnExactNeighbors", fn := fun _ => fun
  | [d1, d2] => { results := [.lit (.bool false)], args := [d1, d2] }
  | _ => none }
def FnExactNeighborsWrongFalsely : Prop := fnExactNeighborsRow.holds Try.pinned (OpenSpec.ofChange fnExactNeighborsWrong)

/- THE SECOND FORM. 'bulk': how many values and letters a reading holds, each counted each time it is reached (what is shared counts as often as it is met; a slice's spare places count too). A statement '..UptoSaid' is the law's where the arguments, and the package variables that the reading takes, are together of bulk at most 1048576: NARROWER than '..Said'. Prove '..Said' where nothing that the law and all that it calls make is longer than what came in: it says more and counts as full. Else prove '..UptoSaid'. A law counts once. -/
mutual
def uptoBulk {H : Type} : DataW H → Nat
  | .lit (.string bytes) => bytes.length + 1
  | .lit _ => 1
  | .nil => 1
  | .ptr d => uptoBulk d + 1
  | .slice elems spare => uptoBulkAll elems + uptoBulkAll spare + 1
  | .agg parts => uptoBulkAll parts + 1
  | .iface _ d => uptoBulk d + 1
  | .map entries => uptoBulkEntries entries + 1
  | .held _ => 1
def uptoBulkAll {H : Type} : List (DataW H) → Nat
  | [] => 0
  | d :: r => uptoBulk d + uptoBulkAll r
def uptoBulkEntries {H : Type} : List (Lit × DataW H) → Nat
  | [] => 0
  | x :: r => uptoBulkEntry x + uptoBulkEntries r
def uptoBulkEntry {H : Type} : Lit × DataW H → Nat
  | (.string bytes, d) => bytes.length + uptoBulk d + 1
  | (_, d) => uptoBulk d + 1
 end
def uptoSmall : (H : Type) → List (DataW H) → Bool := fun _ ds => decide (uptoBulkAll ds ≤ 1048576)
def OpenSpec.upto (s : _root_.Go.ChangeSpec) : _root_.Go.OpenSpec := { _root_.Go.OpenSpec.ofChange s with cond := some uptoSmall }

/-- 'laws.FnMeshes', WHERE WHAT IT READS IS OF BULK AT MOST 1048576: true; the input reads as it did. -/
def fnMeshesUptoRow : OpenClaim := { program := "ytdefhepagpgnaaa", sum := "b3cce93f5f8bfb97cf865082365f032330e25f551e0b060c98ad0db10993f4ae", func := "loop.example/g00809/laws.FnMeshes", spec := "fnMeshes", unfollowed := true, recurses := true, plainKeys := false, apart := false, narrowed := true }
def FnMeshesUptoSaid : Prop := fnMeshesUptoRow.holds Try.pinned (OpenSpec.upto fnMeshesSpec)

/-- 'laws.FnHull', WHERE WHAT IT READS IS OF BULK AT MOST 1048576: true; the input reads as it did. -/
def fnHullUptoRow : OpenClaim := { program := "ytdefhepagpgnaaa", sum := "b3cce93f5f8bfb97cf865082365f032330e25f551e0b060c98ad0db10993f4ae", func := "loop.example/g00809/laws.FnHull", spec := "fnHull", unfollowed := true, recurses := true, plainKeys := false, apart := false, narrowed := true }
def FnHullUptoSaid : Prop := fnHullUptoRow.holds Try.pinned (OpenSpec.upto fnHullSpec)

/-- 'laws.FnExactFacePoint', WHERE WHAT IT READS IS OF BULK AT MOST 1048576: true; the input reads as it did. -/
def fnExactFacePointUptoRow : OpenClaim := { program := "ytdefhepagpgnaaa", sum := "b3cce93f5f8bfb97cf865082365f032330e25f551e0b060c98ad0db10993f4ae", func := "loop.example/g00809/laws.FnExactFacePoint", spec := "fnExactFacePoint", unfollowed := true, recurses := true, plainKeys := false, apart := false, narrowed := true }
def FnExactFacePointUptoSaid : Prop := fnExactFacePointUptoRow.holds Try.pinned (OpenSpec.upto fnExactFacePointSpec)

/-- 'laws.FnExactEdgePoint', WHERE WHAT IT READS IS OF BULK AT MOST 1048576: true; the input reads as it did. -/
def fnExactEdgePointUptoRow : OpenClaim := { program := "ytdefhepagpgnaaa", sum := "b3cce93f5f8bfb97cf865082365f032330e25f551e0b060c98ad0db10993f4ae", func := "loop.example/g00809/laws.FnExactEdgePoint", spec := "fnExactEdgePoint", unfollowed := true, recurses := true, plainKeys := false, apart := false, narrowed := true }
def FnExactEdgePointUptoSaid : Prop := fnExactEdgePointUptoRow.holds Try.pinned (OpenSpec.upto fnExactEdgePointSpec)

/-- 'laws.FnExactVertexPoint', WHERE WHAT IT READS IS OF BULK AT MOST 1048576: true; the input reads as it did. -/
def fnExactVertexPointUptoRow : OpenClaim := { program := "ytdefhepagpgnaaa", sum := "b3cce93f5f8bfb97cf865082365f032330e25f551e0b060c98ad0db10993f4ae", func := "loop.example/g00809/laws.FnExactVertexPoint", spec := "fnExactVertexPoint", unfollowed := true, recurses := true, plainKeys := false, apart := false, narrowed := true }
def FnExactVertexPointUptoSaid : Prop := fnExactVertexPointUptoRow.holds Try.pinned (OpenSpec.upto fnExactVertexPointSpec)

/-- 'laws.FnExactNeighbors', WHERE WHAT IT READS IS OF BULK AT MOST 1048576: true; the input reads as it did. -/
def fnExactNeighborsUptoRow : OpenClaim := { program := "ytdefhepagpgnaaa", sum := "b3cce93f5f8bfb97cf865082365f032330e25f551e0b060c98ad0db10993f4ae", func := "loop.example/g00809/laws.FnExactNeighbors", spec := "fnExactNeighbors", unfollowed := true, recurses := true, plainKeys := false, apart := false, narrowed := true }
def FnExactNeighborsUptoSaid : Prop := fnExactNeighborsUptoRow.holds Try.pinned (OpenSpec.upto fnExactNeighborsSpec)

end Rows
end Go.Proofs.Ytdefhepagpgnaaa
