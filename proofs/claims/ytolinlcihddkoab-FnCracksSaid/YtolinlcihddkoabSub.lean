/- Contracts of IsValidSubPatch: the program and its model. -/
import Derived.Test.YtolinlcihddkoabProg
import Derived.Test.YtolinlcihddkoabInts
import Derived.Test.YtolinlcihddkoabVbox
import Derived.Test.YtolinlcihddkoabVec
import Derived.Test.YtolinlcihddkoabHeld
import Derived.Test.YtolinlcihddkoabArr
import Derived.Test.YtolinlcihddkoabTr
import Derived.WalkKit
import Derived.WalkSpells
import Derived.WalkLawsBesides
import Derived.Lib.Hide
import Derived.Deep.RegionHeld3
import Derived.Deep.QuietTactic
import Derived.BigQuiet
import Derived.Handy
import Derived.Deep.DeepCutAuto
namespace Go.Proofs.Ytolinlcihddkoab
open Go.RowKit

def pow2 (n : Int) : Bool := decide (n = 1 ∨ n = 2 ∨ n = 4 ∨ n = 8 ∨ n = 16 ∨ n = 32 ∨ n = 64)
def okS (u v n : Int) : Bool := pow2 n && (decide (0 ≤ u ∧ u < n) && decide (0 ≤ v ∧ v < n))
theorem pow2_iff (n : Int) : pow2 n = true ↔ (n = 1 ∨ n = 2 ∨ n = 4 ∨ n = 8 ∨ n = 16 ∨ n = 32 ∨ n = 64) := by simp [pow2]
theorem pow2_bd {n : Int} (h : pow2 n = true) : 1 ≤ n ∧ n ≤ 64 := by rw [pow2_iff] at h; omega
theorem pow2_no {n : Int} (h : ¬ (1 ≤ n ∧ n ≤ 64)) : pow2 n = false := by
  rw [Bool.eq_false_iff]
  exact fun e => h (pow2_bd e)
theorem okS_iff (u v n : Int) : okS u v n = true ↔ (n = 1 ∨ n = 2 ∨ n = 4 ∨ n = 8 ∨ n = 16 ∨ n = 32 ∨ n = 64) ∧ (0 ≤ u ∧ u < n) ∧ 0 ≤ v ∧ v < n := by simp [okS, pow2_iff]
theorem okS_no {u v n : Int} (h : ¬ (pow2 n = true ∧ (0 ≤ u ∧ u < n) ∧ 0 ≤ v ∧ v < n)) : false = okS u v n := by
  rw [eq_comm, Bool.eq_false_iff]
  intro e
  rw [okS_iff, ← pow2_iff] at e
  exact h e
theorem okS_yes {u v n : Int} (h : pow2 n = true ∧ (0 ≤ u ∧ u < n) ∧ 0 ≤ v ∧ v < n) : true = okS u v n := by
  rw [eq_comm, okS_iff, ← pow2_iff]; exact h
theorem and_all : ∀ k : Fin 65, 1 ≤ k.val → (bits .and .i64 ((k.val : Nat) : Int) (((k.val : Nat) : Int) - 1) == 0) = pow2 ((k.val : Nat) : Int) := by decide +kernel
theorem and_pow {n : Int} (h : 1 ≤ n ∧ n ≤ 64) : (bits .and .i64 n (n - 1) == 0) = pow2 n := by
  have := and_all ⟨n.toNat, by omega⟩ (by show 1 ≤ n.toNat; omega)
  rw [show ((n.toNat : Nat) : Int) = n by omega] at this
  exact this
/-- a power of two below M -/
def pb (M n : Int) : Bool := pow2 n && decide (n < M)
def isPw (M : Int) : Prop := M = 1 ∨ M = 2 ∨ M = 4 ∨ M = 8 ∨ M = 16 ∨ M = 32 ∨ M = 64 ∨ M = 128
theorem pb_one (n : Int) : pb 1 n = false := by
  rw [Bool.eq_false_iff]
  intro e
  simp only [pb, Bool.and_eq_true, decide_eq_true_eq, pow2_iff] at e
  omega
theorem pb_end (n : Int) : pb 128 n = pow2 n := by
  rw [Bool.eq_iff_iff]
  simp only [pb, Bool.and_eq_true, decide_eq_true_eq, pow2_iff]
  omega
theorem pb_step {M n : Int} (h : isPw M) (h64 : M ≤ 64) : pb (2 * M) n = (pb M n || (M == n)) := by
  rw [Bool.eq_iff_iff]
  simp only [pb, Bool.and_eq_true, Bool.or_eq_true, decide_eq_true_eq, pow2_iff, beq_iff_eq]
  unfold isPw at h
  omega
theorem pw_step {M : Int} (h : isPw M) (h64 : M ≤ 64) : isPw (2 * M) := by unfold isPw at *; omega
theorem pw_bd {M : Int} (h : isPw M) : 1 ≤ M ∧ M ≤ 128 := by unfold isPw at h; omega








end Go.Proofs.Ytolinlcihddkoab
