/- Contracts of EvalPatch: the model. -/
import Derived.Test.YtolinlcihddkoabProg
import Derived.Test.YtolinlcihddkoabInts
import Derived.Test.YtolinlcihddkoabVbox
import Derived.Test.YtolinlcihddkoabVec
import Derived.Test.YtolinlcihddkoabHeld
import Derived.Test.YtolinlcihddkoabArr
import Derived.Test.YtolinlcihddkoabTr
import Derived.Test.YtolinlcihddkoabMem
import Derived.Test.YtolinlcihddkoabFlat
import Derived.Test.YtolinlcihddkoabRowC
import Derived.Test.YtolinlcihddkoabPat
import Derived.Test.YtolinlcihddkoabGrid
import Derived.Test.YtolinlcihddkoabPut
import Derived.WalkKit
import Derived.WalkSpells
import Derived.WalkLawsBesides
import Derived.Lib.Hide
import Derived.Deep.RegionHeld3
import Derived.Deep.QuietTactic
import Derived.BigQuiet
import Derived.Handy
import Derived.Deep.DeepCutAuto
namespace Go.Proofs.Ytolinlcihddkoab
open Go.RowKit


end Go.Proofs.Ytolinlcihddkoab
