/- Contracts of FormatVec, in the program and in its model. -/
import Derived.Test.YtlaghpcdaolofaaDoorProg
import Derived.Test.YtlaghpcdaolofaaDoorMem
import Derived.Test.YtlaghpcdaolofaaDoorStrS
import Derived.Test.YtlaghpcdaolofaaDoorNumP
import Derived.Test.YtlaghpcdaolofaaDoorFmt
import Derived.Test.YtlaghpcdaolofaaDoorBuilder
import Derived.Test.YtlaghpcdaolofaaDoorInts
import Derived.Test.YtlaghpcdaolofaaDoorIntS
import Derived.Test.YtlaghpcdaolofaaDoorFmts
import Derived.Test.YtlaghpcdaolofaaDoorVbox
import Derived.Test.YtlaghpcdaolofaaDoorVec
import Derived.Test.YtlaghpcdaolofaaDoorVlaw
import Derived.WalkKit
import Derived.WalkSpells
import Derived.WalkLawsBesides
import Derived.Lib.Hide
import Derived.Handy
namespace Go.Proofs.YtlaghpcdaolofaaDoor
open Go.RowKit

/-- what FormatVec writes -/
def fmtV (x y z : Int) : ByteArray := if okB x y z = true then fmtsP [x, y, z] else ⟨#[]⟩
theorem row3 (w : World) (x y z : Int) (t : TypeId) : Row I64 (w.alloc (.cells #[.int .i64 x, .int .i64 y, .int .i64 z] t)) (w.alloc (.cells #[.int .i64 x, .int .i64 y, .int .i64 z] t)).heap.size (some ⟨w.heap.size, 0, none⟩) [x, y, z] := fun _ => by
  have V := Vbox.new w x y z t
  refine ⟨w.heap.size, 0, rfl, by simp, fun k hk => ?_⟩
  match k, hk with
  | 0, _ => exact V.1
  | 1, _ => exact V.2.1
  | 2, _ => exact V.2.2.1



end Go.Proofs.YtlaghpcdaolofaaDoor
