/- Contracts of Apply, valid or not, in one form. -/
import Derived.Test.YtjflkapdnnecjaaProg
import Derived.Test.YtjflkapdnnecjaaInts
import Derived.Test.YtjflkapdnnecjaaVbox
import Derived.Test.YtjflkapdnnecjaaVec
import Derived.Test.YtjflkapdnnecjaaHeld
import Derived.Test.YtjflkapdnnecjaaArr
import Derived.Test.YtjflkapdnnecjaaTr
import Derived.Test.YtjflkapdnnecjaaTMat
import Derived.Test.YtjflkapdnnecjaaVDot
import Derived.Test.YtjflkapdnnecjaaVAdd
import Derived.Test.YtjflkapdnnecjaaTAw
import Derived.Test.YtjflkapdnnecjaaTApp
import Derived.Test.YtjflkapdnnecjaaTsApp
import Derived.WalkKit
import Derived.WalkSpells
import Derived.WalkLawsBesides
import Derived.Lib.Hide
import Derived.Deep.RegionHeld3
import Derived.Deep.QuietTactic
import Derived.BigQuiet
import Derived.Handy
import Derived.Deep.DeepCutAuto
namespace Go.Proofs.Ytjflkapdnnecjaa
open Go.RowKit
def apV (b : Bool) (u v : Int) : Int := if b then u else v

set_option maxHeartbeats 2000000 in
theorem apply_any (a0 a1 a2 a3 a4 a5 a6 a7 a8 x y z p q r : Int) (w : World) :
    Calls Try.prog 78 #[tr a0 a1 a2 a3 a4 a5 a6 a7 a8 x y z, vec (p) (q) (r)] w (VecOut (apV (okT [a0, a1, a2, a3, a4, a5, a6, a7, a8] x y z) (apP a0 a1 a2 p q r x) p) (apV (okT [a0, a1, a2, a3, a4, a5, a6, a7, a8] x y z) (apP a3 a4 a5 p q r y) q) (apV (okT [a0, a1, a2, a3, a4, a5, a6, a7, a8] x y z) (apP a6 a7 a8 p q r z) r) w) := by
  cases h : okT [a0, a1, a2, a3, a4, a5, a6, a7, a8] x y z
  · exact apply_no a0 a1 a2 a3 a4 a5 a6 a7 a8 x y z p q r w h
  · exact apply_yes a0 a1 a2 a3 a4 a5 a6 a7 a8 x y z p q r w h

set_option maxHeartbeats 2000000 in
theorem sApply_any (a0 a1 a2 a3 a4 a5 a6 a7 a8 x y z p q r : Int) (w : World) :
    Calls Try.prog 76 #[tr a0 a1 a2 a3 a4 a5 a6 a7 a8 x y z, vec (p) (q) (r)] w (VecOut (apV (okT [a0, a1, a2, a3, a4, a5, a6, a7, a8] x y z) (apP a0 a1 a2 p q r x) p) (apV (okT [a0, a1, a2, a3, a4, a5, a6, a7, a8] x y z) (apP a3 a4 a5 p q r y) q) (apV (okT [a0, a1, a2, a3, a4, a5, a6, a7, a8] x y z) (apP a6 a7 a8 p q r z) r) w) := by
  cases h : okT [a0, a1, a2, a3, a4, a5, a6, a7, a8] x y z
  · exact sApply_no a0 a1 a2 a3 a4 a5 a6 a7 a8 x y z p q r w h
  · exact sApply_yes a0 a1 a2 a3 a4 a5 a6 a7 a8 x y z p q r w h
end Go.Proofs.Ytjflkapdnnecjaa
