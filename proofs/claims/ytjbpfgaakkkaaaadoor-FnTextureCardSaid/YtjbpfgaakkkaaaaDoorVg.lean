/- Textures of the model: Lookup. -/
import Derived.Test.YtjbpfgaakkkaaaaDoorProg
import Derived.Test.YtjbpfgaakkkaaaaDoorInts
import Derived.Test.YtjbpfgaakkkaaaaDoorVbox
import Derived.Test.YtjbpfgaakkkaaaaDoorHeld
import Derived.Test.YtjbpfgaakkkaaaaDoorMem
import Derived.Test.YtjbpfgaakkkaaaaDoorFlat
import Derived.Test.YtjbpfgaakkkaaaaDoorRowC
import Derived.Test.YtjbpfgaakkkaaaaDoorKS
import Derived.Test.YtjbpfgaakkkaaaaDoorStrS
import Derived.Test.YtjbpfgaakkkaaaaDoorIntS
import Derived.Test.YtjbpfgaakkkaaaaDoorSS
import Derived.Test.YtjbpfgaakkkaaaaDoorVi
import Derived.Test.YtjbpfgaakkkaaaaDoorVa
import Derived.Test.YtjbpfgaakkkaaaaDoorVb
import Derived.Test.YtjbpfgaakkkaaaaDoorVc
import Derived.Test.YtjbpfgaakkkaaaaDoorVd
import Derived.Test.YtjbpfgaakkkaaaaDoorVe
import Derived.Test.YtjbpfgaakkkaaaaDoorVf
import Derived.WalkKit
import Derived.WalkSpells
import Derived.WalkLawsBesides
import Derived.Lib.Hide
import Derived.Deep.RegionHeld3
import Derived.Deep.QuietTactic
import Derived.BigQuiet
import Derived.Handy
import Derived.Deep.DeepCutAuto
import Derived.OwnWalk
namespace Go.Proofs.YtjbpfgaakkkaaaaDoor
open Go.RowKit

def ccT (n : Int) : Int := clampP n (-1000000) 1000000
theorem ccT_bd (n : Int) : -1000000 ≤ ccT n ∧ ccT n ≤ 1000000 := clampP_bd n _ _ (by omega)
theorem mul_bdT {a b A B : Int} (ha : 0 ≤ a ∧ a ≤ A) (hb : 0 ≤ b ∧ b ≤ B) : 0 ≤ a * b ∧ a * b ≤ A * B :=
  ⟨Int.mul_nonneg ha.1 hb.1, Int.le_trans (Int.mul_le_mul_of_nonneg_right ha.2 hb.1) (Int.mul_le_mul_of_nonneg_left hb.2 (by omega))⟩
/-- one row of an interpolation -/
def itT (a b f : Int) : Int := a * (256 - f) + b * f
theorem itT_bd {a b f A : Int} (ha : 0 ≤ a ∧ a ≤ A) (hb : 0 ≤ b ∧ b ≤ A) (hf : 0 ≤ f ∧ f ≤ 255) : 0 ≤ itT a b f ∧ itT a b f ≤ A * 256 := by
  have h1 := mul_bdT ha (b := 256 - f) (B := 256 - f) (by omega)
  have h2 := mul_bdT hb (b := f) (B := f) (by omega)
  unfold itT
  have h3 : A * (256 - f) + A * f = A * 256 := by rw [← Int.mul_add]; congr 1; omega
  omega
/-- what Lookup answers at a level of a valid texture -/
def lkL (L : Int) (M : List Int) (u v : Int) : Int :=
  let s := ccT u * (sd L : Int) - 128
  let r := ccT v * (sd L : Int) - 128
  fdivP (itT (itT (txl L M (s / 256) (r / 256)) (txl L M (s / 256 + 1) (r / 256)) (s - 256 * (s / 256))) (itT (txl L M (s / 256) (r / 256 + 1)) (txl L M (s / 256 + 1) (r / 256 + 1)) (s - 256 * (s / 256))) (r - 256 * (r / 256))) 65536
def lkP (L : Int) (ts : List Int) (u v lv : Int) : Int := if okX L ts = true then lkL (L - clampP lv 0 L) (mipL L ts (clampP lv 0 L).toNat) u v else 0
theorem pos_bd {c : Int} {n : Nat} (hc : -1000000 ≤ c ∧ c ≤ 1000000) (hn : n ≤ 16) : -16000000 ≤ c * (n : Int) ∧ c * (n : Int) ≤ 16000000 := by
  have h1 : -1000000 * (n : Int) ≤ c * n := Int.mul_le_mul_of_nonneg_right hc.1 (by omega)
  have h2 : c * n ≤ 1000000 * (n : Int) := Int.mul_le_mul_of_nonneg_right hc.2 (by omega)
  omega


end Go.Proofs.YtjbpfgaakkkaaaaDoor
