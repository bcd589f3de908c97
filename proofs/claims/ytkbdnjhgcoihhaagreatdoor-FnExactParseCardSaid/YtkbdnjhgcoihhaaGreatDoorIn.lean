/- Contracts of the model's l01In. -/
import Derived.Test.YtkbdnjhgcoihhaaGreatDoorProg
import Derived.WalkKit
import Derived.WalkSpells
import Derived.WalkLawsBesides
import Derived.Lib.Hide
namespace Go.Proofs.YtkbdnjhgcoihhaaGreatDoor
open Go.RowKit


end Go.Proofs.YtkbdnjhgcoihhaaGreatDoor
