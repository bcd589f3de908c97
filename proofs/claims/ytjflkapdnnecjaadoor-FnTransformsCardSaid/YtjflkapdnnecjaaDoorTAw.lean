/- Words for Apply: a row of the matrix and what it makes of a vector. -/
import Derived.Test.YtjflkapdnnecjaaDoorProg
import Derived.Test.YtjflkapdnnecjaaDoorInts
import Derived.Test.YtjflkapdnnecjaaDoorVbox
import Derived.Test.YtjflkapdnnecjaaDoorVec
import Derived.Test.YtjflkapdnnecjaaDoorHeld
import Derived.Test.YtjflkapdnnecjaaDoorArr
import Derived.Test.YtjflkapdnnecjaaDoorTr
import Derived.Test.YtjflkapdnnecjaaDoorVDot
import Derived.Test.YtjflkapdnnecjaaDoorVAdd
import Derived.WalkKit
import Derived.WalkSpells
import Derived.WalkLawsBesides
import Derived.Lib.Hide
import Derived.Deep.RegionHeld3
import Derived.Deep.QuietTactic
import Derived.BigQuiet
import Derived.Handy
import Derived.Deep.DeepCutAuto
namespace Go.Proofs.YtjflkapdnnecjaaDoor
open Go.RowKit

def rowD (a b c x y z : Int) : Int := cc a * cc x + cc b * cc y + cc c * cc z
theorem rowD_bd (a b c x y z : Int) : -3000000000000 ≤ rowD a b c x y z ∧ rowD a b c x y z ≤ 3000000000000 := by
  have m0 := cc_mul a x
  have m1 := cc_mul b y
  have m2 := cc_mul c z
  unfold rowD
  omega
theorem rowD_lo {a b c x y z : Int} : -4611686018427387904 ≤ rowD a b c x y z := by have := rowD_bd a b c x y z; omega
theorem rowD_hi {a b c x y z : Int} : rowD a b c x y z ≤ 4611686018427387903 := by have := rowD_bd a b c x y z; omega
def apP (a b c x y z o : Int) : Int := cc (cc (fdivP (rowD a b c x y z) 16) + cc o)
/-- the same with coefficients that are in range -/
def rowS (a b c x y z : Int) : Int := a * cc x + b * cc y + c * cc z
theorem rowS_eq {a b c : Int} (ha : -64 ≤ a ∧ a ≤ 64) (hb : -64 ≤ b ∧ b ≤ 64) (hc : -64 ≤ c ∧ c ≤ 64) (x y z : Int) : rowS a b c x y z = rowD a b c x y z := by
  unfold rowS rowD
  rw [cc_in (n := a) (by omega) (by omega), cc_in (n := b) (by omega) (by omega), cc_in (n := c) (by omega) (by omega)]
theorem mc_bd {a : Int} (ha : -64 ≤ a ∧ a ≤ 64) (x : Int) : -64000000 ≤ a * cc x ∧ a * cc x ≤ 64000000 := by
  have := mul_bd (a := a) (b := cc x) (m := 64) (n := 1000000) ha (cc_bd x)
  omega
theorem mc_w1 {a : Int} (ha : -64 ≤ a ∧ a ≤ 64) (x : Int) : IntKind.i64.wrap (a * cc x) = a * cc x := wrap_in (by have := mc_bd ha x; omega)
theorem mc_w2 {a b : Int} (ha : -64 ≤ a ∧ a ≤ 64) (hb : -64 ≤ b ∧ b ≤ 64) (x y : Int) : IntKind.i64.wrap (a * cc x + b * cc y) = a * cc x + b * cc y := wrap_in (by have := mc_bd ha x; have := mc_bd hb y; omega)
theorem mc_w3 {a b c : Int} (ha : -64 ≤ a ∧ a ≤ 64) (hb : -64 ≤ b ∧ b ≤ 64) (hc : -64 ≤ c ∧ c ≤ 64) (x y z : Int) : IntKind.i64.wrap (a * cc x + b * cc y + c * cc z) = a * cc x + b * cc y + c * cc z := wrap_in (by have := mc_bd ha x; have := mc_bd hb y; have := mc_bd hc z; omega)
theorem mc_lo {a b c : Int} (ha : -64 ≤ a ∧ a ≤ 64) (hb : -64 ≤ b ∧ b ≤ 64) (hc : -64 ≤ c ∧ c ≤ 64) (x y z : Int) : -9223372036854775808 ≤ a * cc x + b * cc y + c * cc z := by have := mc_bd ha x; have := mc_bd hb y; have := mc_bd hc z; omega
theorem mc_hi {a b c : Int} (ha : -64 ≤ a ∧ a ≤ 64) (hb : -64 ≤ b ∧ b ≤ 64) (hc : -64 ≤ c ∧ c ≤ 64) (x y z : Int) : a * cc x + b * cc y + c * cc z ≤ 9223372036854775807 := by have := mc_bd ha x; have := mc_bd hb y; have := mc_bd hc z; omega
theorem Mbox.new3' (w : World) (v0 v1 v2 : Value) (t : TypeId) : Mbox (w.alloc (.cells #[v0, v1, v2] t)) w.heap.size [v0, v1, v2] := Mbox.new w #[v0, v1, v2] t

theorem dotR_any (x y z p q r : Int) (w : World) : Calls Tryd.prog 46 #[vec x y z, vec p q r] w fun e w' => e = .returned (.int .i64 (rowD x y z p q r)) ∧ Below w.heap.size w w' := dot_any x y z p q r w
end Go.Proofs.YtjflkapdnnecjaaDoor
