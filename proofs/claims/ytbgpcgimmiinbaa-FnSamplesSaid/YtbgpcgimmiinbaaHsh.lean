/- HashRange: the program and its model; the samples of a pixel as values. -/
import Derived.Test.YtbgpcgimmiinbaaProg
import Derived.Test.YtbgpcgimmiinbaaInts
import Derived.Test.YtbgpcgimmiinbaaMem
import Derived.Test.YtbgpcgimmiinbaaIntS
import Derived.WalkKit
import Derived.WalkSpells
import Derived.WalkLawsBesides
import Derived.Lib.Hide
import Derived.Deep.RegionHeld3
import Derived.Deep.QuietTactic
import Derived.BigQuiet
import Derived.Handy
import Derived.Deep.DeepCutAuto
namespace Go.Proofs.Ytbgpcgimmiinbaa
open Go.RowKit

/-- a hash in a range -/
def hashR (xs : List Int) (n : Int) : Int := if n < 1 then 0 else hashP xs % n
theorem hashR_bd (xs : List Int) (n : Int) (h : 1 ≤ n) : 0 ≤ hashR xs n ∧ hashR xs n < n := by
  unfold hashR
  rw [if_neg (by omega)]
  exact ⟨Int.emod_nonneg _ (by omega), Int.emod_lt_of_pos _ (by omega)⟩
def HashIs (v : Int) (w : World) (e : Ending) (w' : World) : Prop := e = .returned (.int .i64 v) ∧ w = w'

set_option maxHeartbeats 400000 in
theorem floorModH_any (a b : Int) (w : World) (hb : 1 ≤ b) (hb2 : b ≤ 9223372036854775807) (h0 : 0 ≤ a) (h1 : a ≤ 1000003) :
    Calls Try.prog 54 #[.int .i64 a, .int .i64 b] w fun e w' => e = .returned (.int .i64 (a % b)) ∧ w = w' := by
  obtain ⟨g0, g1, g2⟩ := fdivP_mul a b hb
  have g3 : 0 ≤ b * fdivP a b := by
    unfold fdivP
    rw [if_neg (by omega)]
    exact Int.mul_nonneg (by omega) (Int.ediv_nonneg h0 (by omega))
  have G2 := Lib.hid g2
  clear g2 g1
  go_enter Try.func54, Try.ntmps54
  go_wp2_with ((go_at_call 43; refine (floorDiv_any _ _ _ (by omega) (by omega)).mono ?_; rintro e w' ⟨rfl, rfl⟩))
  go_ret
  exact ⟨ret_int G2.out, rfl⟩

set_option maxHeartbeats 1000000 in
theorem hashRange_any (A : Option Addr) (c : Nat) (xs : List Int) (n : Int) (w : World) (B : Nat) (hR : Row I64 w B A xs) (hl : xs.length ≤ 1152921504606846976) (hn : n ≤ 9223372036854775807) :
    Calls Try.prog 21 #[.slice A xs.length c, .int .i64 n] w (HashIs (hashR xs n) w) := by
  by_cases hb : n < 1
  · go_enter Try.func21, Try.ntmps21
    go_wp2_with fail
    go_ret
    exact ⟨ret_int (by unfold hashR; rw [if_pos hb]), rfl⟩
  · have hb' : 1 ≤ n := by omega
    have HV := Lib.hid (show hashR xs n = hashP xs % n by unfold hashR; rw [if_neg hb])
    have hd := hashP_bd xs
    have HR := Lib.hid hR
    clear hR
    go_enter Try.func21, Try.ntmps21
    go_wp2_with fail
    refine (hashInts_any _ _ xs _ B HR.out hl).mono ?_
    rintro e w1 ⟨rfl, rfl⟩
    obtain ⟨h, hh⟩ : ∃ h, h = hashP xs := ⟨_, rfl⟩
    rw [← hh] at hd ⊢
    have HH := Lib.hid hh
    clear hh
    go_wp2_with fail
    refine (floorModH_any _ _ _ hb' hn (by omega) (by omega)).mono ?_
    rintro e w2 ⟨rfl, rfl⟩
    go_wp2_with fail
    go_ret
    exact ⟨ret_int (by rw [HV.out, ← HH.out]), rfl⟩

set_option maxHeartbeats 1000000 in
theorem sHashRange_any (A : Option Addr) (c : Nat) (xs : List Int) (n : Int) (w : World) (B : Nat) (hR : Row I64 w B A xs) (hl : xs.length ≤ 1152921504606846976) (hn : n ≤ 9223372036854775807) :
    Calls Try.prog 19 #[.slice A xs.length c, .int .i64 n] w (HashIs (hashR xs n) w) := by
  by_cases hb : n < 1
  · go_enter Try.func19, Try.ntmps19
    go_wp2_with fail
    go_ret
    exact ⟨ret_int (by unfold hashR; rw [if_pos hb]), rfl⟩
  · have hb' : 1 ≤ n := by omega
    have HV := Lib.hid (show hashR xs n = hashP xs % n by unfold hashR; rw [if_neg hb])
    have hd := hashP_bd xs
    have HR := Lib.hid hR
    clear hR
    go_enter Try.func19, Try.ntmps19
    go_wp2_with fail
    refine (sHashInts_any _ _ xs _ B HR.out hl).mono ?_
    rintro e w1 ⟨rfl, rfl⟩
    obtain ⟨h, hh⟩ : ∃ h, h = hashP xs := ⟨_, rfl⟩
    rw [← hh] at hd ⊢
    have HH := Lib.hid hh
    clear hh
    have ht : h.tmod n = h % n := Int.tmod_eq_emod_of_nonneg hd.1
    go_wp2_with fail
    go_ret
    exact ⟨ret_int (by rw [HV.out, ← HH.out] <;> exact ht), rfl⟩
end Go.Proofs.Ytbgpcgimmiinbaa
