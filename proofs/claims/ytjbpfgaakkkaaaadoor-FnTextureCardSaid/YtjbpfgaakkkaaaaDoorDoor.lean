/- What the rows' listed variables give, and a world in which they hold what is listed (for the witness). -/
import Derived.Test.YtjbpfgaakkkaaaaDoorRows
import Derived.Test.YtjbpfgaakkkaaaaDoorFmt
import Derived.WalkKit
import Derived.ProofKit
import Derived.Deep.DeepHandedRow
import Derived.Deep.DeepWitnessRowRef
import Derived.Lib.LaidTab
import Derived.LaidSub
namespace Go.Proofs.YtjbpfgaakkkaaaaDoor
open Go.RowKit

theorem gPowType : (Tryd.prog.globals[3]?).map (·.type) = some 116 := by kernel_rfl
theorem cellsPow : Tryd.prog.cellsOf 116 = 20 := by kernel_rfl
theorem cellsU64 : Tryd.prog.cellsOf 98 = 1 := by kernel_rfl
theorem pow_of {W : World} (l : List (String × DataW Unit)) (hl : l.filter (fun x => x.1 == "internal/strconv.uint64pow10") = [("internal/strconv.uint64pow10", Rows.laid_internal_strconv_uint64pow10)]) (h : laidMetH Tryd.prog l W) : Pow W := by
  have h1 := laidMetH.filter (fun x => x.1 == "internal/strconv.uint64pow10") h
  rw [hl] at h1
  exact Lib.tabIs_of_head (rest := []) gPow gPowType Tryd.underlying116 Tryd.underlying98 cellsU64 cellsPow h1
def tabVals (d : DataW Unit) : Array Value := match d with
  | .agg l => (l.map fun | .lit (.int k n) => Value.int k n | _ => Value.int .i64 0).toArray
  | _ => #[]
def putVals (vs : Array Value) : Obj → Obj
  | .cells _ t frozen => .cells vs t frozen
  | o => o
noncomputable def laidWorld (os : Os) : World :=
  let w0 := World.holding Tryd.prog os ⟨#[], #[], []⟩
  { w0 with heap := ((w0.heap.modify 3 (putVals (tabVals Rows.laid_internal_strconv_uint64pow10))).modify 4 (putVals (tabVals Rows.laid_math_bits_deBruijn32tab))).modify 5 (putVals (tabVals Rows.laid_math_bits_deBruijn64tab)) }
end Go.Proofs.YtjbpfgaakkkaaaaDoor
