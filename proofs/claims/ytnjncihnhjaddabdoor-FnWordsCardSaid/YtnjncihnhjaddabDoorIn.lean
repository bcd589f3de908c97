/- Contracts of the model's l01In. -/
import Derived.Test.YtnjncihnhjaddabDoorProg
import Derived.WalkKit
import Derived.WalkSpells
import Derived.WalkLawsBesides
import Derived.Lib.Hide
namespace Go.Proofs.YtnjncihnhjaddabDoor
open Go.RowKit


end Go.Proofs.YtnjncihnhjaddabDoor
