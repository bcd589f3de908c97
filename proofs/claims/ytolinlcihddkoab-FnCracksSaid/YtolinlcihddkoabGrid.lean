/- Words for points of a patch (nothing of the program). -/
import Derived.Test.YtolinlcihddkoabProg
import Derived.Test.YtolinlcihddkoabInts
import Derived.Test.YtolinlcihddkoabVbox
import Derived.Test.YtolinlcihddkoabVec
import Derived.WalkKit
import Derived.WalkSpells
import Derived.WalkLawsBesides
import Derived.Lib.Hide
import Derived.Deep.RegionHeld3
import Derived.Deep.QuietTactic
import Derived.BigQuiet
import Derived.Handy
import Derived.Deep.DeepCutAuto
namespace Go.Proofs.Ytolinlcihddkoab
open Go.RowKit

/-- a weighted mean of four numbers, rounded down -/
def gridP (p q r s i j n : Int) : Int := fdivP ((n - j) * ((n - i) * p + i * q) + j * ((n - i) * r + i * s)) (n * n)
/-- the arguments of EvalPatch are in range -/
def gin (i j n : Int) : Bool := decide ((1 ≤ n ∧ n ≤ 64) ∧ (0 ≤ i ∧ i ≤ n) ∧ 0 ≤ j ∧ j ≤ n)
def evP (p q r s i j n : Int) : Int := if gin i j n = true then gridP p q r s i j n else p
theorem gin_iff (i j n : Int) : gin i j n = true ↔ (1 ≤ n ∧ n ≤ 64) ∧ (0 ≤ i ∧ i ≤ n) ∧ 0 ≤ j ∧ j ≤ n := by simp [gin]
theorem ev_yes {i j n : Int} (h : (1 ≤ n ∧ n ≤ 64) ∧ (0 ≤ i ∧ i ≤ n) ∧ 0 ≤ j ∧ j ≤ n) (p q r s : Int) : evP p q r s i j n = gridP p q r s i j n := if_pos ((gin_iff ..).2 h)
theorem ev_no {i j n : Int} (h : ¬ ((1 ≤ n ∧ n ≤ 64) ∧ (0 ≤ i ∧ i ≤ n) ∧ 0 ≤ j ∧ j ≤ n)) (p q r s : Int) : evP p q r s i j n = p := if_neg (fun e => h ((gin_iff ..).1 e))
theorem grid_S (p q r s i j n : Int) : p * (n - i) * (n - j) + q * i * (n - j) + r * (n - i) * j + s * i * j = (n - j) * ((n - i) * p + i * q) + j * ((n - i) * r + i * s) := by
  grind
theorem sq_pos {n : Int} (h : 1 ≤ n) : 1 ≤ n * n := by
  have := Int.mul_le_mul h h (by omega) (by omega)
  omega
theorem sq_le {n : Int} (h : 1 ≤ n) (h' : n ≤ 64) : n * n ≤ 4096 := by
  have := Int.mul_le_mul h' h' (by omega) (by omega)
  omega
theorem fdiv_scale (a b k : Int) (hb : 1 ≤ b) (hk : 1 ≤ k) : fdivP (k * a) (k * b) = fdivP a b := by
  have : 1 ≤ k * b := by
    have := Int.mul_le_mul hk hb (by omega) (by omega)
    omega
  unfold fdivP
  rw [if_neg (by omega), if_neg (by omega), Int.mul_ediv_mul_of_pos _ _ (by omega)]
theorem grid_fine (p q r s i j n : Int) (hn : 1 ≤ n) : gridP p q r s (2 * i) (2 * j) (2 * n) = gridP p q r s i j n := by
  unfold gridP
  rw [show (2 * n - 2 * j) * ((2 * n - 2 * i) * p + 2 * i * q) + 2 * j * ((2 * n - 2 * i) * r + 2 * i * s) = 4 * ((n - j) * ((n - i) * p + i * q) + j * ((n - i) * r + i * s)) by grind,
    show 2 * n * (2 * n) = 4 * (n * n) by grind, fdiv_scale _ _ 4 (sq_pos hn) (by omega)]
/-- what is weighed lies between -/
theorem mean_bd {k n a b m M : Int} (hk : 0 ≤ k ∧ k ≤ n) (ha : m ≤ a ∧ a ≤ M) (hb : m ≤ b ∧ b ≤ M) : n * m ≤ (n - k) * a + k * b ∧ (n - k) * a + k * b ≤ n * M := by
  have mono : ∀ {k a b : Int}, 0 ≤ k → a ≤ b → k * a ≤ k * b := fun hk h => Int.mul_le_mul_of_nonneg_left h hk
  have h1 := mono (k := n - k) (by omega) ha.1
  have h2 := mono (k := k) (by omega) hb.1
  have h3 := mono (k := n - k) (by omega) ha.2
  have h4 := mono (k := k) (by omega) hb.2
  have e1 : n * m = (n - k) * m + k * m := by grind
  have e2 : n * M = (n - k) * M + k * M := by grind
  omega
theorem num_bd {p q r s i j n m M : Int} (hi : 0 ≤ i ∧ i ≤ n) (hj : 0 ≤ j ∧ j ≤ n) (hp : m ≤ p ∧ p ≤ M) (hq : m ≤ q ∧ q ≤ M) (hr : m ≤ r ∧ r ≤ M) (hs : m ≤ s ∧ s ≤ M) :
    (n * n) * m ≤ (n - j) * ((n - i) * p + i * q) + j * ((n - i) * r + i * s) ∧ (n - j) * ((n - i) * p + i * q) + j * ((n - i) * r + i * s) ≤ (n * n) * M := by
  have h1 := mean_bd hi hp hq
  have h2 := mean_bd hi hr hs
  have h3 := mean_bd hj h1 h2
  rw [Int.mul_assoc, Int.mul_assoc]
  exact h3
theorem grid_bd {p q r s i j n m M : Int} (hn : 1 ≤ n) (hi : 0 ≤ i ∧ i ≤ n) (hj : 0 ≤ j ∧ j ≤ n) (hp : m ≤ p ∧ p ≤ M) (hq : m ≤ q ∧ q ≤ M) (hr : m ≤ r ∧ r ≤ M) (hs : m ≤ s ∧ s ≤ M) : m ≤ gridP p q r s i j n ∧ gridP p q r s i j n ≤ M := by
  obtain ⟨g1, g2⟩ := num_bd hi hj hp hq hr hs
  have hq := sq_pos hn
  unfold gridP fdivP
  rw [if_neg (by omega)]
  constructor
  · exact Int.le_ediv_of_mul_le (by omega) (by rw [Int.mul_comm]; exact g1)
  · have := Int.ediv_le_ediv (show 0 < n * n by omega) g2
    rwa [Int.mul_ediv_cancel_left _ (by omega)] at this
theorem grid_edge0 (p q r s i n : Int) (h : (1 ≤ n ∧ n ≤ 4096) ∧ 0 ≤ i ∧ i ≤ n) : lerpP p q i n = gridP p q r s i 0 n := by
  unfold lerpP gridP
  rw [if_pos h, show (n - 0) * ((n - i) * p + i * q) + 0 * ((n - i) * r + i * s) = n * ((n - i) * p + i * q) by grind, fdiv_scale _ _ n (by omega) (by omega)]
theorem grid_edge3 (p q r s j n : Int) (h : (1 ≤ n ∧ n ≤ 4096) ∧ 0 ≤ j ∧ j ≤ n) : lerpP q s j n = gridP p q r s n j n := by
  unfold lerpP gridP
  rw [if_pos h, show (n - j) * ((n - n) * p + n * q) + j * ((n - n) * r + n * s) = n * ((n - j) * q + j * s) by grind, fdiv_scale _ _ n (by omega) (by omega)]
end Go.Proofs.Ytolinlcihddkoab
