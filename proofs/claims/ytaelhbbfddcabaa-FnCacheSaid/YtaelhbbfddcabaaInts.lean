/- Contracts of the integer helpers of chapter 2: FloorDiv, Clamp, floorMod, in the program and in its model. -/
import Derived.Test.YtaelhbbfddcabaaProg
import Derived.WalkKit
import Derived.WalkSpells
import Derived.WalkLawsBesides
import Derived.Lib.Hide
namespace Go.Proofs.Ytaelhbbfddcabaa
open Go.RowKit

/-- division rounded down; 0 where the divisor is less than 1 -/
def fdivP (a b : Int) : Int := if b < 1 then 0 else a / b
def clampP (n lo hi : Int) : Int := if hi < lo ∨ n < lo then lo else if hi < n then hi else n

theorem ret_int {k : IntKind} {a b : Int} (h : a = b) : Ending.returned (.int k a) = .returned (.int k b) := by rw [h]
theorem ediv_of (a b q r : Int) (hb : 1 ≤ b) (e : b * q + r = a) (h0 : 0 ≤ r) (h1 : r < b) : a / b = q := by
  have := Int.ediv_emod_unique (a := a) (b := b) (r := r) (q := q) (by omega)
  exact (this.2 ⟨by omega, h0, h1⟩).1
theorem fdivP_neg (a b : Int) (hb : 1 ≤ b) (h : a.tmod b < 0) : a.tdiv b - 1 = fdivP a b := by
  unfold fdivP; rw [if_neg (by omega)]
  have h1 := Int.mul_tdiv_add_tmod a b
  have h3 := Int.lt_tmod_of_pos a (b := b) (by omega)
  exact (ediv_of a b _ (a.tmod b + b) hb (by rw [Int.mul_sub]; omega) (by omega) (by omega)).symm
theorem fdivP_pos (a b : Int) (hb : 1 ≤ b) (h : ¬ a.tmod b < 0) : a.tdiv b = fdivP a b := by
  unfold fdivP; rw [if_neg (by omega)]
  have h1 := Int.mul_tdiv_add_tmod a b
  have h3 := Int.tmod_lt_of_pos a (b := b) (by omega)
  exact (ediv_of a b _ (a.tmod b) hb (by omega) (by omega) (by omega)).symm
theorem fdivP_bd (a b : Int) (h0 : -9223372036854775808 ≤ a) (h1 : a ≤ 9223372036854775807) : -9223372036854775808 ≤ fdivP a b ∧ fdivP a b ≤ 9223372036854775807 := by
  unfold fdivP
  split
  · omega
  · have hb : 0 < b := by omega
    have e := Int.mul_ediv_add_emod a b
    have e0 := Int.emod_nonneg a (b := b) (by omega)
    have e1 := Int.emod_lt_of_pos a hb
    by_cases h : 0 ≤ a
    · have := Int.ediv_le_self b h
      have := Int.ediv_nonneg h (b := b) (by omega)
      omega
    · have g : a ≤ a / b := by
        refine (Int.le_ediv_iff_mul_le hb).2 ?_
        have := Int.mul_le_mul_of_nonpos_left (show a ≤ 0 by omega) (show 1 ≤ b by omega)
        omega
      have := Int.ediv_neg_of_neg_of_pos (a := a) (b := b) (by omega) hb
      omega
theorem fdivP_mul (a b : Int) (hb : 1 ≤ b) : b * fdivP a b ≤ a ∧ a < b * fdivP a b + b ∧ a - b * fdivP a b = a % b := by
  unfold fdivP; rw [if_neg (by omega)]
  have e := Int.mul_ediv_add_emod a b
  have e0 := Int.emod_nonneg a (b := b) (by omega)
  have e1 := Int.emod_lt_of_pos a (show 0 < b by omega)
  omega
theorem clampP_bd (n lo hi : Int) (h : lo ≤ hi) : lo ≤ clampP n lo hi ∧ clampP n lo hi ≤ hi := by
  unfold clampP; split <;> (try split) <;> omega

set_option maxHeartbeats 400000 in
theorem floorDiv_any (a b : Int) (w : World) (h0 : -9223372036854775808 ≤ a) (h1 : a ≤ 9223372036854775807) :
    Calls Try.prog 84 #[.int .i64 a, .int .i64 b] w fun e w' => e = .returned (.int .i64 (fdivP a b)) ∧ w = w' := by
  have bd := Lib.hid (fdivP_bd a b h0 h1)
  by_cases hb : b < 1
  · go_enter Try.func84, Try.ntmps84
    go_wp2
    go_ret
    exact ⟨ret_int (by unfold fdivP; rw [if_pos hb]), rfl⟩
  · have hb' : 1 ≤ b := by omega
    go_enter Try.func84, Try.ntmps84
    go_wp2
    · go_ret
      have e := fdivP_neg a b hb' (by assumption)
      have bd := bd.out
      exact ⟨ret_int (by rw [e]; exact IntWalk.wrap64_in _ ⟨by omega, by omega⟩), rfl⟩
    · go_ret
      exact ⟨ret_int (fdivP_pos a b hb' (by omega)), rfl⟩

set_option maxHeartbeats 400000 in
theorem sFloorDiv_any (a b : Int) (w : World) (h0 : -9223372036854775808 ≤ a) (h1 : a ≤ 9223372036854775807) :
    Calls Try.prog 69 #[.int .i64 a, .int .i64 b] w fun e w' => e = .returned (.int .i64 (fdivP a b)) ∧ w = w' := by
  have bd := Lib.hid (fdivP_bd a b h0 h1)
  by_cases hb : b < 1
  · go_enter Try.func69, Try.ntmps69
    go_wp2
    go_ret
    exact ⟨ret_int (by unfold fdivP; rw [if_pos hb]), rfl⟩
  · have hb' : 1 ≤ b := by omega
    go_enter Try.func69, Try.ntmps69
    go_wp2
    · go_ret
      have e := fdivP_neg a b hb' (by assumption)
      have bd := bd.out
      exact ⟨ret_int (by rw [e]; exact IntWalk.wrap64_in _ ⟨by omega, by omega⟩), rfl⟩
    · go_ret
      exact ⟨ret_int (fdivP_pos a b hb' (by omega)), rfl⟩

set_option maxHeartbeats 400000 in
theorem clamp_any (n lo hi : Int) (w : World) :
    Calls Try.prog 51 #[.int .i64 n, .int .i64 lo, .int .i64 hi] w fun e w' => e = .returned (.int .i64 (clampP n lo hi)) ∧ w = w' := by
  go_enter Try.func51, Try.ntmps51
  go_wp2
  all_goals
    go_ret
    exact ⟨ret_int (by unfold clampP; repeat (first | omega | split | (split at *))), rfl⟩

set_option maxHeartbeats 400000 in
theorem sClamp_any (n lo hi : Int) (w : World) :
    Calls Try.prog 57 #[.int .i64 n, .int .i64 lo, .int .i64 hi] w fun e w' => e = .returned (.int .i64 (clampP n lo hi)) ∧ w = w' := by
  go_enter Try.func57, Try.ntmps57
  go_wp2
  all_goals
    go_ret
    exact ⟨ret_int (by unfold clampP; repeat (first | omega | split)), rfl⟩

end Go.Proofs.Ytaelhbbfddcabaa
