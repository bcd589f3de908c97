/- Textures of the model: validity and texels. -/
import Derived.Test.YtaelhbbfddcabaaProg
import Derived.Test.YtaelhbbfddcabaaInts
import Derived.Test.YtaelhbbfddcabaaVbox
import Derived.Test.YtaelhbbfddcabaaHeld
import Derived.Test.YtaelhbbfddcabaaMem
import Derived.Test.YtaelhbbfddcabaaFlat
import Derived.Test.YtaelhbbfddcabaaRowC
import Derived.Test.YtaelhbbfddcabaaKS
import Derived.Test.YtaelhbbfddcabaaStrS
import Derived.Test.YtaelhbbfddcabaaIntS
import Derived.Test.YtaelhbbfddcabaaSS
import Derived.Test.YtaelhbbfddcabaaVi
import Derived.Test.YtaelhbbfddcabaaVa
import Derived.Test.YtaelhbbfddcabaaVb
import Derived.WalkKit
import Derived.WalkSpells
import Derived.WalkLawsBesides
import Derived.Lib.Hide
import Derived.Deep.RegionHeld3
import Derived.Deep.QuietTactic
import Derived.BigQuiet
import Derived.Handy
import Derived.Deep.DeepCutAuto
import Derived.OwnWalk
namespace Go.Proofs.Ytaelhbbfddcabaa
open Go.RowKit

def inV (lo hi n : Int) : Bool := decide (lo ≤ n) && decide (n ≤ hi)
theorem inV_iff (lo hi n : Int) : inV lo hi n = true ↔ lo ≤ n ∧ n ≤ hi := by simp [inV]
theorem inV_no {lo hi n : Int} (h : ¬ (lo ≤ n ∧ n ≤ hi)) : inV lo hi n = false := Bool.eq_false_iff.2 fun k => h ((inV_iff ..).1 k)
theorem wrap_v {a : Int} (h : -4611686018427387904 ≤ a ∧ a ≤ 4611686018427387903) : IntKind.i64.wrap a = a := IntWalk.i64_in _ (by omega)

set_option maxHeartbeats 2000000 in
theorem l01InV (n lo hi : Int) (w : World) :
    Calls Try.prog 60 #[.int .i64 n, .int .i64 lo, .int .i64 hi] w (fun x w' => x = .returned (.bool (inV lo hi n)) ∧ w = w') := by
  by_cases h0 : lo ≤ n
  · by_cases h1 : n ≤ hi
    all_goals
      have b0 : decide (lo ≤ n) = true := decide_eq_true h0
      go_enter Try.func60, Try.ntmps60
      go_wp2
      go_ret
      exact ⟨by simp [inV, *], rfl⟩
  · have hv := inV_no (n := n) (lo := lo) (hi := hi) (fun k => h0 k.1)
    have HV := Lib.hid hv
    clear hv
    go_enter Try.func60, Try.ntmps60
    go_wp2
    go_ret
    exact ⟨by rw [HV.out]; rfl, rfl⟩

set_option maxHeartbeats 2000000 in
theorem isWithinV (n lo hi : Int) (w : World) :
    Calls Try.prog 55 #[.int .i64 n, .int .i64 lo, .int .i64 hi] w (fun x w' => x = .returned (.bool (inV lo hi n)) ∧ w = w') := by
  by_cases h0 : lo ≤ n
  · by_cases h1 : n ≤ hi
    all_goals
      have b0 : decide (lo ≤ n) = true := decide_eq_true h0
      go_enter Try.func55, Try.ntmps55
      go_wp2
      go_ret
      exact ⟨by simp [inV, *], rfl⟩
  · have hv := inV_no (n := n) (lo := lo) (hi := hi) (fun k => h0 k.1)
    have HV := Lib.hid hv
    clear hv
    go_enter Try.func55, Try.ntmps55
    go_wp2
    go_ret
    exact ⟨by rw [HV.out]; rfl, rfl⟩

set_option maxHeartbeats 4000000 in
theorem sSize_any (L : Int) (w : World) (h : 0 ≤ L ∧ L ≤ 4) :
    Calls Try.prog 64 #[.int .i64 L] w fun e w' => e = .returned (.int .i64 (sd L : Int)) ∧ w' = w := by
  obtain ⟨n, rfl⟩ : ∃ n : Nat, L = (n : Int) := ⟨L.toNat, by omega⟩
  have hn : n ≤ 4 := by omega
  go_enter Try.func64, Try.ntmps64
  go_wp2_with fail
  go_loop [0, 3] (fun a b => ∃ l m : Nat, l ≤ n ∧ a = .int .i64 l ∧ b = .int .i64 m ∧ m * 2 ^ l = 2 ^ n ∧ m ≤ 16) (fun a _ => (intOf a).toNat)
  case atStart => exact ⟨n, 1, Nat.le_refl _, rfl, rfl, by omega, by omega⟩
  case round =>
    obtain ⟨l, m, hl, rfl, rfl, hm, hm16⟩ := hrel
    have h16 : 2 ^ n ≤ 16 := by
      have : 2 ^ n ≤ 2 ^ 4 := Nat.pow_le_pow_right (by omega) hn
      omega
    by_cases hz : l = 0
    · subst hz
      have hE : m = 2 ^ n := by simpa using hm
      have HE : Hid ((m : Int) = (sd (n : Int) : Int)) := Lib.hid (by rw [hE]; unfold sd; simp)
      clear hm hE
      go_wp2_with fail
      go_ret
      exact ⟨by rw [← HE.out]; rfl, rfl⟩
    · obtain ⟨l', rfl⟩ : ∃ l', l = l' + 1 := ⟨l - 1, by omega⟩
      have hp : 1 ≤ 2 ^ l' := Nat.pow_pos (by omega)
      have hm2 : 2 * m * 2 ^ l' = 2 ^ n := by rw [← hm, Nat.pow_succ]; grind
      have hm8 : 2 * m ≤ 16 := by
        have : 2 * m * 1 ≤ 2 * m * 2 ^ l' := Nat.mul_le_mul_left _ hp
        omega
      have HM := Lib.hid (And.intro hm2 hm8)
      have hg : (0 : Int) < ((l' + 1 : Nat) : Int) := by omega
      clear hm hm2 hp hz
      go_wp2_with fail
      go_round
      case rel => exact ⟨l', 2 * m, by omega, by go_num, by go_num, HM.out.1, HM.out.2⟩
      case measure => simp [intOf]
end Go.Proofs.Ytaelhbbfddcabaa
