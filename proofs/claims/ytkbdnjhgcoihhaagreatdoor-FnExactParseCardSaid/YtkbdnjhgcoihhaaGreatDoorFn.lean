/- FormatNumber: the program and its model. -/
import Derived.Test.YtkbdnjhgcoihhaaGreatDoorProg
import Derived.Test.YtkbdnjhgcoihhaaGreatDoorInts
import Derived.Test.YtkbdnjhgcoihhaaGreatDoorMem
import Derived.Test.YtkbdnjhgcoihhaaGreatDoorStrS
import Derived.Test.YtkbdnjhgcoihhaaGreatDoorShelf
import Derived.Test.YtkbdnjhgcoihhaaGreatDoorNumP
import Derived.Test.YtkbdnjhgcoihhaaGreatDoorIn
import Derived.WalkKit
import Derived.WalkSpells
import Derived.WalkLawsBesides
import Derived.Lib.Hide
import Derived.Deep.RegionHeld3
import Derived.Deep.QuietTactic
import Derived.BigQuiet
import Derived.Handy
import Derived.Deep.DeepCutAuto
import Derived.Lib.Repeat
import Derived.Lib.TrimByte
namespace Go.Proofs.YtkbdnjhgcoihhaaGreatDoor
open Go.RowKit

/-- the whole units that are read of a fraction f of d digits -/
def uniP (f d : Nat) : Nat := f * 256 / 10 ^ d
/-- the least fraction of d digits that is read as r or more -/
def lfP (r d : Nat) : Nat := (r * 10 ^ d + 255) / 256
/-- d digits are the fewest that are read as r -/
def Dg (r d : Nat) : Prop := 1 ≤ d ∧ d ≤ 3 ∧ uniP (lfP r d) d = r ∧ ∀ j, 1 ≤ j → j < d → uniP (lfP r j) j ≠ r
theorem dg_ex (r : Nat) : ∃ d, Dg r d := by
  by_cases a : uniP (lfP r 1) 1 = r
  · exact ⟨1, Nat.le_refl _, by omega, a, fun j h k => by omega⟩
  · by_cases b : uniP (lfP r 2) 2 = r
    · exact ⟨2, by omega, by omega, b, fun j h k => by obtain rfl : j = 1 := by omega
                                                       exact a⟩
    · refine ⟨3, by omega, by omega, ?_, fun j h k => ?_⟩
      · show (r * 1000 + 255) / 256 * 256 / 1000 = r
        omega
      · have : j = 1 ∨ j = 2 := by omega
        rcases this with rfl | rfl
        · exact a
        · exact b
def p10 (k : Nat) : Nat := 10 ^ k
theorem pow_bd {k : Nat} (h : k ≤ 4) : 1 ≤ 10 ^ k ∧ 10 ^ k ≤ 10000 := ⟨Nat.pow_pos (by omega), Nat.pow_le_pow_right (n := 10) (by omega) h⟩
theorem lf_lt {r d : Nat} (h2 : r ≤ 255) (hd : Dg r d) : lfP r d < 10 ^ d := by
  obtain ⟨h, h3, he, _⟩ := hd
  have : d = 1 ∨ d = 2 ∨ d = 3 := by omega
  rcases this with rfl | rfl | rfl
  · have he : (r * 10 + 255) / 256 * 256 / 10 = r := he
    show (r * 10 + 255) / 256 < 10
    omega
  · have he : (r * 100 + 255) / 256 * 256 / 100 = r := he
    show (r * 100 + 255) / 256 < 100
    omega
  · have he : (r * 1000 + 255) / 256 * 256 / 1000 = r := he
    show (r * 1000 + 255) / 256 < 1000
    omega
theorem lf_le (r k : Nat) (h2 : r ≤ 255) (h : k ≤ 4) : lfP r k ≤ 10000 := by
  obtain ⟨_, hq⟩ := pow_bd h
  have : r * 10 ^ k ≤ 255 * 10000 := Nat.mul_le_mul h2 hq
  unfold lfP
  omega
def padZ (l : List UInt8) (d : Nat) : List UInt8 := List.replicate (d - l.length) 48 ++ l
theorem padZ_step (l : List UInt8) (d : Nat) (h : l.length < d) : padZ (48 :: l) d = padZ l d := by
  unfold padZ
  rw [List.length_cons, show d - l.length = d - (l.length + 1) + 1 by omega, List.replicate_succ']
  simp
theorem padZ_done (l : List UInt8) (d : Nat) (h : d ≤ l.length) : padZ l d = l := by
  unfold padZ
  rw [show d - l.length = 0 by omega]
  rfl
/-- the text of n, whose fraction has d digits -/
def numT (n d : Nat) : ByteArray := if n % 256 = 0 then strOf (Lib.decDigits (n / 256)) else strOf (Lib.decDigits (n / 256) ++ (46 :: padZ (Lib.decDigits (lfP (n % 256) d)) d))
theorem fmt_nat (n : Nat) (h : n ≤ 1000000000) : fmtP (n : Int) = strOf (Lib.decDigits n) := by
  unfold fmtP
  rw [if_pos (by omega), Lib.itoa_nonneg]
theorem dl_len (u d : Nat) (h1 : 1 ≤ d) (h : u < 10 ^ d) : (Lib.decDigits u).length ≤ d := by
  rw [Lib.decDigits_length]
  obtain ⟨k, rfl⟩ : ∃ k, d = k + 1 := ⟨d - 1, by omega⟩
  exact nDigits_le k u h
theorem rep48 (c : Nat) : Lib.repeatL [48] c = List.replicate c 48 := by
  have := Lib.repeatL_replicate 48 1 c
  simpa using this

set_option maxRecDepth 100000 in
set_option maxHeartbeats 1000000 in
theorem pow10_any (k : Nat) (w : World) (hk : k ≤ 4) :
    Calls Tryz.prog 89 #[.int .i64 k] w fun e w' => e = .returned (.int .i64 (p10 k : Nat)) ∧ w = w' := by
  go_enter Tryz.func89, Tryz.ntmps89
  go_wp2
  go_loop [3, 5] (fun p i => ∃ j : Nat, j ≤ k ∧ i = .int .i64 j ∧ p = .int .i64 (p10 j : Nat)) (fun _ i => k - (intOf i).toNat)
  case atStart => exact ⟨0, Nat.zero_le _, rfl, rfl⟩
  case round =>
    obtain ⟨j, hj, rfl, rfl⟩ := hrel
    obtain ⟨h1, h2⟩ := pow_bd (k := j) (by omega)
    have hs : p10 (j + 1) = p10 j * 10 := Nat.pow_succ ..
    obtain ⟨q, hq⟩ : ∃ q, q = p10 j := ⟨_, rfl⟩
    change 1 ≤ p10 j at h1
    change p10 j ≤ 10000 at h2
    rw [← hq] at h1 h2 hs ⊢
    have HS := Lib.hid hs
    have HQ := Lib.hid hq
    clear hs hq
    by_cases hlt : (j : Int) < (k : Int)
    · go_wp2
      go_round
      case rel => exact ⟨j + 1, by omega, by go_num, by rw [HS.out]; go_num⟩
      case measure => simp [intOf]; omega
    · have HE : Hid (j = k) := Lib.hid (by omega)
      go_wp2
      go_ret
      exact ⟨by rw [← HE.out, ← HQ.out]; rfl, rfl⟩

set_option maxRecDepth 100000 in
set_option maxHeartbeats 1000000 in
theorem inUnits_any (n k : Nat) (w : World) (hn : n ≤ 99999999) (hk : k ≤ 4) :
    Calls Tryz.prog 76 #[.int .i64 n, .int .i64 k] w fun e w' => e = .returned (.int .i64 (uniP n k : Nat)) ∧ w = w' := by
  obtain ⟨h1, h2⟩ := pow_bd hk
  have hp := fun W => pow10_any k W hk
  change 1 ≤ p10 k at h1
  change p10 k ≤ 10000 at h2
  obtain ⟨q, hq⟩ : ∃ q, q = p10 k := ⟨_, rfl⟩
  have hu : ((uniP n k : Nat) : Int) = fdivP ((n : Int) * 256) (q : Int) := by
    unfold uniP fdivP
    rw [if_neg (by omega), show 10 ^ k = q from hq.symm]
    push_cast
    rfl
  rw [← hq] at h1 h2 hp
  have HP := Lib.hid hp
  have HU := Lib.hid hu
  clear hp hq hu
  go_enter Tryz.func76, Tryz.ntmps76
  go_wp2_with fail
  refine (HP.out _).mono ?_
  rintro e w1 ⟨rfl, rfl⟩
  go_wp2_with fail
  refine (floorDiv_any _ _ _ (by omega) (by omega)).mono ?_
  rintro e w1 ⟨rfl, rfl⟩
  go_wp2_with fail
  go_ret
  exact ⟨by rw [HU.out]; rfl, rfl⟩


theorem isWithinN_any (n lo hi : Int) (w : World) (h0 : lo ≤ n) (h1 : n ≤ hi) :
    Calls Tryz.prog 75 #[.int .i64 n, .int .i64 lo, .int .i64 hi] w fun e w' => e = .returned (.bool true) ∧ w = w' := by
  have b0 : decide (lo ≤ n) = true := decide_eq_true h0
  have b1 : decide (n ≤ hi) = true := decide_eq_true h1
  go_enter Tryz.func75, Tryz.ntmps75
  go_wp2
  go_ret
  exact ⟨rfl, rfl⟩
theorem isWithinN_no (n lo hi : Int) (w : World) (h : n < lo ∨ hi < n) :
    Calls Tryz.prog 75 #[.int .i64 n, .int .i64 lo, .int .i64 hi] w fun e w' => e = .returned (.bool false) ∧ w = w' := by
  by_cases h0 : lo ≤ n
  · have h1 : hi < n := by omega
    have b0 : decide (lo ≤ n) = true := decide_eq_true h0
    have b1 : decide (n ≤ hi) = false := decide_eq_false (by omega)
    go_enter Tryz.func75, Tryz.ntmps75
    go_wp2
    go_ret
    exact ⟨rfl, rfl⟩
  · have b0 : decide (lo ≤ n) = false := decide_eq_false (by omega)
    go_enter Tryz.func75, Tryz.ntmps75
    go_wp2
    go_ret
    exact ⟨rfl, rfl⟩






end Go.Proofs.YtkbdnjhgcoihhaaGreatDoor
