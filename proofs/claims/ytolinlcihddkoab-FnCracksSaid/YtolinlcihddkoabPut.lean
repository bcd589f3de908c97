/- Words for blocks of three cells: made, stored into (nothing of the program). -/
import Derived.Test.YtolinlcihddkoabProg
import Derived.Test.YtolinlcihddkoabHeld
import Derived.WalkKit
import Derived.WalkSpells
import Derived.WalkLawsBesides
import Derived.Lib.Hide
import Derived.Deep.RegionHeld3
import Derived.Deep.QuietTactic
import Derived.BigQuiet
import Derived.Handy
import Derived.Deep.DeepCutAuto
namespace Go.Proofs.Ytolinlcihddkoab
open Go.RowKit

theorem Mbox.newV (w : World) (v0 v1 v2 : Value) (t : TypeId) : Mbox (w.alloc (.cells #[v0, v1, v2] t)) w.heap.size [v0, v1, v2] := Mbox.new w #[v0, v1, v2] t
theorem Mbox.putV {w : World} {k : Nat} {p q r : Value} (h : Mbox w k [p, q, r]) (a b c : Value) : Mbox (((w.setCell ⟨k, 0, none⟩ a).setCell ⟨k, 1, none⟩ b).setCell ⟨k, 2, none⟩ c) k [a, b, c] :=
  ((h.put 0 a).put 1 b).put 2 c
end Go.Proofs.Ytolinlcihddkoab
