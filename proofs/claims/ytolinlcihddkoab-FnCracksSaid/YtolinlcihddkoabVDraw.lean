/- Contracts of l02Draw and MakeVec: some small vector. -/
import Derived.Test.YtolinlcihddkoabProg
import Derived.Test.YtolinlcihddkoabMem
import Derived.Test.YtolinlcihddkoabInts
import Derived.Test.YtolinlcihddkoabIntS
import Derived.Test.YtolinlcihddkoabCur
import Derived.Test.YtolinlcihddkoabVbox
import Derived.Test.YtolinlcihddkoabVec
import Derived.WalkKit
import Derived.WalkSpells
import Derived.WalkLawsBesides
import Derived.Lib.Hide
import Derived.Handy
namespace Go.Proofs.Ytolinlcihddkoab
open Go.RowKit

/-- a small vector -/
def Small (x y z : Int) : Prop := (-1000 ≤ x ∧ x ≤ 1000) ∧ (-1000 ≤ y ∧ y ≤ 1000) ∧ (-1000 ≤ z ∧ z ≤ 1000)
theorem Vbox.grown {w w' : World} {k g : Nat} {x y z : Int} (h : Vbox w k x y z) (hg : w.grownBy w' (some g)) (hk : k ≠ g) : Vbox w' k x y z := h.keep (hg.block k h.lt (fun e => by injection e with e; exact hk e))



end Go.Proofs.Ytolinlcihddkoab
