/- FormatNumber: the program and its model. -/
import Derived.Test.YtkbdnjhgcoihhaaDoorProg
import Derived.Test.YtkbdnjhgcoihhaaDoorInts
import Derived.Test.YtkbdnjhgcoihhaaDoorMem
import Derived.Test.YtkbdnjhgcoihhaaDoorStrS
import Derived.Test.YtkbdnjhgcoihhaaDoorShelf
import Derived.Test.YtkbdnjhgcoihhaaDoorNumP
import Derived.Test.YtkbdnjhgcoihhaaDoorIn
import Derived.Test.YtkbdnjhgcoihhaaDoorFmt
import Derived.WalkKit
import Derived.WalkSpells
import Derived.WalkLawsBesides
import Derived.Lib.Hide
import Derived.Deep.RegionHeld3
import Derived.Deep.QuietTactic
import Derived.BigQuiet
import Derived.Handy
import Derived.Deep.DeepCutAuto
import Derived.Lib.Repeat
import Derived.Lib.TrimByte
namespace Go.Proofs.YtkbdnjhgcoihhaaDoor
open Go.RowKit

/-- the whole units that are read of a fraction f of d digits -/
def uniP (f d : Nat) : Nat := f * 256 / 10 ^ d
/-- the least fraction of d digits that is read as r or more -/
def lfP (r d : Nat) : Nat := (r * 10 ^ d + 255) / 256
/-- d digits are the fewest that are read as r -/
def Dg (r d : Nat) : Prop := 1 ≤ d ∧ d ≤ 3 ∧ uniP (lfP r d) d = r ∧ ∀ j, 1 ≤ j → j < d → uniP (lfP r j) j ≠ r
theorem dg_ex (r : Nat) : ∃ d, Dg r d := by
  by_cases a : uniP (lfP r 1) 1 = r
  · exact ⟨1, Nat.le_refl _, by omega, a, fun j h k => by omega⟩
  · by_cases b : uniP (lfP r 2) 2 = r
    · exact ⟨2, by omega, by omega, b, fun j h k => by obtain rfl : j = 1 := by omega
                                                       exact a⟩
    · refine ⟨3, by omega, by omega, ?_, fun j h k => ?_⟩
      · show (r * 1000 + 255) / 256 * 256 / 1000 = r
        omega
      · have : j = 1 ∨ j = 2 := by omega
        rcases this with rfl | rfl
        · exact a
        · exact b
def p10 (k : Nat) : Nat := 10 ^ k
theorem pow_bd {k : Nat} (h : k ≤ 4) : 1 ≤ 10 ^ k ∧ 10 ^ k ≤ 10000 := ⟨Nat.pow_pos (by omega), Nat.pow_le_pow_right (n := 10) (by omega) h⟩
theorem lf_lt {r d : Nat} (h2 : r ≤ 255) (hd : Dg r d) : lfP r d < 10 ^ d := by
  obtain ⟨h, h3, he, _⟩ := hd
  have : d = 1 ∨ d = 2 ∨ d = 3 := by omega
  rcases this with rfl | rfl | rfl
  · have he : (r * 10 + 255) / 256 * 256 / 10 = r := he
    show (r * 10 + 255) / 256 < 10
    omega
  · have he : (r * 100 + 255) / 256 * 256 / 100 = r := he
    show (r * 100 + 255) / 256 < 100
    omega
  · have he : (r * 1000 + 255) / 256 * 256 / 1000 = r := he
    show (r * 1000 + 255) / 256 < 1000
    omega
theorem lf_le (r k : Nat) (h2 : r ≤ 255) (h : k ≤ 4) : lfP r k ≤ 10000 := by
  obtain ⟨_, hq⟩ := pow_bd h
  have : r * 10 ^ k ≤ 255 * 10000 := Nat.mul_le_mul h2 hq
  unfold lfP
  omega
def padZ (l : List UInt8) (d : Nat) : List UInt8 := List.replicate (d - l.length) 48 ++ l
theorem padZ_step (l : List UInt8) (d : Nat) (h : l.length < d) : padZ (48 :: l) d = padZ l d := by
  unfold padZ
  rw [List.length_cons, show d - l.length = d - (l.length + 1) + 1 by omega, List.replicate_succ']
  simp
theorem padZ_done (l : List UInt8) (d : Nat) (h : d ≤ l.length) : padZ l d = l := by
  unfold padZ
  rw [show d - l.length = 0 by omega]
  rfl
/-- the text of n, whose fraction has d digits -/
def numT (n d : Nat) : ByteArray := if n % 256 = 0 then strOf (Lib.decDigits (n / 256)) else strOf (Lib.decDigits (n / 256) ++ (46 :: padZ (Lib.decDigits (lfP (n % 256) d)) d))
theorem fmt_nat (n : Nat) (h : n ≤ 1000000000) : fmtP (n : Int) = strOf (Lib.decDigits n) := by
  unfold fmtP
  rw [if_pos (by omega), Lib.itoa_nonneg]
theorem dl_len (u d : Nat) (h1 : 1 ≤ d) (h : u < 10 ^ d) : (Lib.decDigits u).length ≤ d := by
  rw [Lib.decDigits_length]
  obtain ⟨k, rfl⟩ : ∃ k, d = k + 1 := ⟨d - 1, by omega⟩
  exact nDigits_le k u h
theorem rep48 (c : Nat) : Lib.repeatL [48] c = List.replicate c 48 := by
  have := Lib.repeatL_replicate 48 1 c
  simpa using this

set_option maxRecDepth 100000 in
set_option maxHeartbeats 1000000 in
theorem pow10_any (k : Nat) (w : World) (hk : k ≤ 4) :
    Calls Tryd.prog 72 #[.int .i64 k] w fun e w' => e = .returned (.int .i64 (p10 k : Nat)) ∧ w = w' := by
  go_enter Tryd.func72, Tryd.ntmps72
  go_wp2
  go_loop [3, 5] (fun p i => ∃ j : Nat, j ≤ k ∧ i = .int .i64 j ∧ p = .int .i64 (p10 j : Nat)) (fun _ i => k - (intOf i).toNat)
  case atStart => exact ⟨0, Nat.zero_le _, rfl, rfl⟩
  case round =>
    obtain ⟨j, hj, rfl, rfl⟩ := hrel
    obtain ⟨h1, h2⟩ := pow_bd (k := j) (by omega)
    have hs : p10 (j + 1) = p10 j * 10 := Nat.pow_succ ..
    obtain ⟨q, hq⟩ : ∃ q, q = p10 j := ⟨_, rfl⟩
    change 1 ≤ p10 j at h1
    change p10 j ≤ 10000 at h2
    rw [← hq] at h1 h2 hs ⊢
    have HS := Lib.hid hs
    have HQ := Lib.hid hq
    clear hs hq
    by_cases hlt : (j : Int) < (k : Int)
    · go_wp2
      go_round
      case rel => exact ⟨j + 1, by omega, by go_num, by rw [HS.out]; go_num⟩
      case measure => simp [intOf]; omega
    · have HE : Hid (j = k) := Lib.hid (by omega)
      go_wp2
      go_ret
      exact ⟨by rw [← HE.out, ← HQ.out]; rfl, rfl⟩

set_option maxRecDepth 100000 in
set_option maxHeartbeats 1000000 in
theorem inUnits_any (n k : Nat) (w : World) (hn : n ≤ 99999999) (hk : k ≤ 4) :
    Calls Tryd.prog 54 #[.int .i64 n, .int .i64 k] w fun e w' => e = .returned (.int .i64 (uniP n k : Nat)) ∧ w = w' := by
  obtain ⟨h1, h2⟩ := pow_bd hk
  have hp := fun W => pow10_any k W hk
  change 1 ≤ p10 k at h1
  change p10 k ≤ 10000 at h2
  obtain ⟨q, hq⟩ : ∃ q, q = p10 k := ⟨_, rfl⟩
  have hu : ((uniP n k : Nat) : Int) = fdivP ((n : Int) * 256) (q : Int) := by
    unfold uniP fdivP
    rw [if_neg (by omega), show 10 ^ k = q from hq.symm]
    push_cast
    rfl
  rw [← hq] at h1 h2 hp
  have HP := Lib.hid hp
  have HU := Lib.hid hu
  clear hp hq hu
  go_enter Tryd.func54, Tryd.ntmps54
  go_wp2_with fail
  refine (HP.out _).mono ?_
  rintro e w1 ⟨rfl, rfl⟩
  go_wp2_with fail
  refine (floorDiv_any _ _ _ (by omega) (by omega)).mono ?_
  rintro e w1 ⟨rfl, rfl⟩
  go_wp2_with fail
  go_ret
  exact ⟨by rw [HU.out]; rfl, rfl⟩

set_option maxRecDepth 100000 in
set_option maxHeartbeats 1000000 in
theorem leastFraction_any (r k : Nat) (w : World) (hr : r ≤ 255) (hk : k ≤ 4) :
    Calls Tryd.prog 55 #[.int .i64 r, .int .i64 k] w fun e w' => e = .returned (.int .i64 (lfP r k : Nat)) ∧ w = w' := by
  obtain ⟨h1, h2⟩ := pow_bd hk
  have hp := fun W => pow10_any k W hk
  change 1 ≤ p10 k at h1
  change p10 k ≤ 10000 at h2
  obtain ⟨q, hq⟩ : ∃ q, q = p10 k := ⟨_, rfl⟩
  obtain ⟨m, hm⟩ : ∃ m, m = r * q := ⟨_, rfl⟩
  have hmi : (r : Int) * (q : Int) = (m : Int) := by rw [hm]; rfl
  have hmb : m ≤ 2550000 := by rw [hm, hq]; exact Nat.le_trans (Nat.mul_le_mul hr h2) (by omega)
  have hu : ((lfP r k : Nat) : Int) = fdivP ((m : Int) + 256 - 1) 256 := by
    unfold lfP fdivP
    rw [if_neg (by omega), show 10 ^ k = q from hq.symm, ← hm]
    omega
  rw [← hq] at h1 h2 hp
  have HP := Lib.hid hp
  have HU := Lib.hid hu
  clear hp hq hu hm
  go_enter Tryd.func55, Tryd.ntmps55
  go_wp2_with fail
  refine (HP.out _).mono ?_
  rintro e w1 ⟨rfl, rfl⟩
  go_wp2_with fail
  refine (floorDiv_any _ _ _ (by omega) (by omega)).mono ?_
  rintro e w1 ⟨rfl, rfl⟩
  go_wp2_with fail
  go_ret
  exact ⟨by rw [HU.out]; rfl, rfl⟩

theorem isWithinN_any (n lo hi : Int) (w : World) (h0 : lo ≤ n) (h1 : n ≤ hi) :
    Calls Tryd.prog 42 #[.int .i64 n, .int .i64 lo, .int .i64 hi] w fun e w' => e = .returned (.bool true) ∧ w = w' := by
  have b0 : decide (lo ≤ n) = true := decide_eq_true h0
  have b1 : decide (n ≤ hi) = true := decide_eq_true h1
  go_enter Tryd.func42, Tryd.ntmps42
  go_wp2
  go_ret
  exact ⟨rfl, rfl⟩
theorem isWithinN_no (n lo hi : Int) (w : World) (h : n < lo ∨ hi < n) :
    Calls Tryd.prog 42 #[.int .i64 n, .int .i64 lo, .int .i64 hi] w fun e w' => e = .returned (.bool false) ∧ w = w' := by
  by_cases h0 : lo ≤ n
  · have h1 : hi < n := by omega
    have b0 : decide (lo ≤ n) = true := decide_eq_true h0
    have b1 : decide (n ≤ hi) = false := decide_eq_false (by omega)
    go_enter Tryd.func42, Tryd.ntmps42
    go_wp2
    go_ret
    exact ⟨rfl, rfl⟩
  · have b0 : decide (lo ≤ n) = false := decide_eq_false (by omega)
    go_enter Tryd.func42, Tryd.ntmps42
    go_wp2
    go_ret
    exact ⟨rfl, rfl⟩

set_option maxRecDepth 100000 in
set_option maxHeartbeats 2000000 in
theorem formatFraction_any (r d : Nat) (w : World) (hr : r ≤ 255) (hd : Dg r d) (hp : Pow w) :
    Calls Tryd.prog 48 #[.int .i64 r] w fun e w' => e = .returned (.string (strOf (padZ (Lib.decDigits (lfP r d)) d))) ∧ Below w.heap.size w w' := by
  have hlt := lf_lt hr hd
  have hll := dl_len _ d hd.1 hlt
  have hle := lf_le r d hr (by have := hd.2.1; omega)
  obtain ⟨hd1, hd3, hde, hdn⟩ := hd
  have HP := Lib.hid hp
  have HLL := Lib.hid hll
  have HDE := Lib.hid hde
  have HDN := Lib.hid hdn
  clear hp hll hlt hde hdn
  go_enter Tryd.func48, Tryd.ntmps48
  go_wp2_with fail
  go_loop [3] (fun x => ∃ j : Nat, 1 ≤ j ∧ j ≤ d ∧ x = .int .i64 j) (fun x => d - (intOf x).toNat)
  case atStart => exact ⟨1, Nat.le_refl _, hd1, rfl⟩
  case round =>
    obtain ⟨j, hj1, hj, rfl⟩ := hrel
    have hl := lf_le r j hr (by omega)
    have hne : j < d → uniP (lfP r j) j ≠ r := HDN.out j hj1
    have hl34 := fun W => leastFraction_any r j W hr (by omega)
    have hu33 := fun W => inUnits_any (lfP r j) j W (by omega) (by omega)
    obtain ⟨f, hf⟩ : ∃ f, f = lfP r j := ⟨_, rfl⟩
    rw [← hf] at hl hl34 hu33 hne
    obtain ⟨u, hu⟩ : ∃ u, u = uniP f j := ⟨_, rfl⟩
    rw [← hu] at hu33 hne
    have H34 := Lib.hid hl34
    have H33 := Lib.hid hu33
    have HF := Lib.hid hf
    have HUU := Lib.hid hu
    clear hl34 hu33 hf hu
    by_cases hjd : j < d
    · have hb : ((u : Int) != (r : Int)) = true := by
        have := hne hjd
        simp; omega
      clear hne
      go_wp2_with fail
      refine (H34.out _).mono ?_
      rintro e w1 ⟨rfl, rfl⟩
      go_wp2_with fail
      refine (H33.out _).mono ?_
      rintro e w1 ⟨rfl, rfl⟩
      go_wp2_with fail
      go_round
      case rel => exact ⟨j + 1, by omega, by omega, by go_num⟩
      case measure => simp [intOf]; omega
    · obtain rfl : j = d := by omega
      have hur : u = r := by rw [HUU.out, HF.out]; exact HDE.out
      have hb : ((u : Int) != (r : Int)) = false := by simp [hur]
      have hfm := fun W h => format_any (f : Int) W h
      rw [fmt_nat f (by omega)] at hfm
      have hsz := strOf_size (Lib.decDigits f)
      have hlen : (Lib.decDigits f).length ≤ j := by rw [HF.out]; exact HLL.out
      obtain ⟨l, hl0⟩ : ∃ l, l = Lib.decDigits f := ⟨_, rfl⟩
      rw [← hl0] at hfm hsz hlen
      obtain ⟨s, hs⟩ : ∃ s, s = strOf l := ⟨_, rfl⟩
      rw [← hs] at hfm hsz
      have HFM := Lib.hid hfm
      have HS := Lib.hid hs
      have HL0 := Lib.hid hl0
      have hRP := fun W => Tryd.strings_Repeat ⟨#[48]⟩ (j - l.length) W (by omega) (by show 1 * _ ≤ _; omega)
      have hc : ((j - l.length : Nat) : Int) = (j : Int) - (l.length : Int) := by omega
      obtain ⟨z, hz⟩ : ∃ z, z = j - l.length := ⟨_, rfl⟩
      rw [← hz] at hc hRP
      have hzr : (⟨(Lib.repeatL (⟨#[48]⟩ : ByteArray).data.toList z).toArray⟩ : ByteArray) = strOf (List.replicate z 48) := by
        show (⟨(Lib.repeatL [48] z).toArray⟩ : ByteArray) = _
        rw [rep48]; rfl
      rw [hzr] at hRP
      simp only [hc] at hRP
      have hzs := strOf_size (List.replicate z (48 : UInt8))
      rw [List.length_replicate] at hzs
      obtain ⟨zs, hzz⟩ : ∃ zs, zs = strOf (List.replicate z (48 : UInt8)) := ⟨_, rfl⟩
      rw [← hzz] at hRP hzs
      have HZZ := Lib.hid hzz
      have HZ := Lib.hid hz
      have hzb : z ≤ 3 := by omega
      clear hzr hc hz hzz
      have HRP := Lib.hid hRP
      clear hfm hs hl0 hne hur hRP
      go_wp2_with fail
      refine (H34.out _).mono ?_
      rintro e w1 ⟨rfl, rfl⟩
      go_wp2_with fail
      refine (H33.out _).mono ?_
      rintro e w1 ⟨rfl, rfl⟩
      go_wp2_with fail
      refine (H34.out _).mono ?_
      rintro e w1 ⟨rfl, rfl⟩
      go_wp2_with fail
      refine (HFM.out _ HP.out).mono ?_
      rintro e w1 ⟨rfl, hb1⟩
      go_wp2_with fail
      refine (HRP.out _).mono ?_
      rintro e w2 ⟨rfl, hb2⟩
      have HB := Lib.hid (hb1.trans (hb2.mono hb1.size))
      clear hb1 hb2
      go_wp2_with fail
      go_ret
      refine ⟨?_, HB.out⟩
      rw [← HF.out, ← HL0.out]
      show Ending.returned (.string (zs ++ s)) = _
      rw [HZZ.out, HS.out, strOf_append, HZ.out]
      rfl

set_option maxRecDepth 100000 in
set_option maxHeartbeats 2000000 in
theorem formatNumber_any (n d : Nat) (w : World) (hn : n ≤ 2559999) (hd : Dg (n % 256) d) (hp : Pow w) :
    Calls Tryd.prog 33 #[.int .i64 n] w fun e w' => e = .returned (.string (numT n d)) ∧ Below w.heap.size w w' := by
  have hw := fun W h => format_any ((n / 256 : Nat) : Int) W h
  rw [fmt_nat _ (by omega)] at hw
  have hl := digits_len (n / 256) (by omega)
  have hf := fun W h => formatFraction_any (n % 256) d W (by omega) hd h
  have hlp := dl_len _ d hd.1 (lf_lt (by omega) hd)
  have hq : (n : Int).tdiv 256 = ((n / 256 : Nat) : Int) := by
    rw [Int.tdiv_eq_ediv_of_nonneg (by omega)]; omega
  have hm : (n : Int).tmod 256 = ((n % 256 : Nat) : Int) := by
    rw [Int.tmod_eq_emod_of_nonneg (by omega)]; omega
  have hq' : (n : Int) / 256 = ((n / 256 : Nat) : Int) := by omega
  have hm' : (n : Int) % 256 = ((n % 256 : Nat) : Int) := by omega
  have hd3 := hd.2.1
  have hps : (strOf (padZ (Lib.decDigits (lfP (n % 256) d)) d)).size = d := by
    rw [strOf_size]; unfold padZ; simp; omega
  have hT : numT n d = if n % 256 = 0 then strOf (Lib.decDigits (n / 256)) else strOf (Lib.decDigits (n / 256)) ++ (⟨#[46]⟩ : ByteArray) ++ strOf (padZ (Lib.decDigits (lfP (n % 256) d)) d) := by
    unfold numT
    split
    · rfl
    · rw [show (⟨#[46]⟩ : ByteArray) = strOf [46] from rfl, strOf_append, strOf_append]; simp
  have hsz := strOf_size (Lib.decDigits (n / 256))
  obtain ⟨T, hTT⟩ : ∃ T, T = numT n d := ⟨_, rfl⟩
  rw [← hTT] at hT ⊢
  obtain ⟨a, ha⟩ : ∃ a, a = strOf (Lib.decDigits (n / 256)) := ⟨_, rfl⟩
  obtain ⟨b, hb⟩ : ∃ b, b = strOf (padZ (Lib.decDigits (lfP (n % 256) d)) d) := ⟨_, rfl⟩
  rw [← ha] at hw hT hsz
  rw [← hb] at hf hT hps
  obtain ⟨q, hqq⟩ : ∃ q, q = n / 256 := ⟨_, rfl⟩
  obtain ⟨r, hr⟩ : ∃ r, r = n % 256 := ⟨_, rfl⟩
  rw [← hqq] at hw hq hq' hl hsz
  rw [← hr] at hf hm hm' hT
  simp only [← hm'] at hf
  have hsa : a.size ≤ 10 := by omega
  have HW := Lib.hid hw
  have HF := Lib.hid hf
  have HT := Lib.hid hT
  have HP := Lib.hid hp
  have hin := fun W => isWithinN_any (n : Int) 0 2559999 W (by omega) (by omega)
  have HIN := Lib.hid hin
  clear hw hf hT hp ha hb hqq hTT hd hlp hsz hl hin hm hr
  by_cases h0 : r = 0
  · have hb0 : ((n : Int) % 256 == 0) = true := by rw [hm']; simp [h0]
    clear hm'
    go_enter Tryd.func33, Tryd.ntmps33
    go_wp2_with fail
    refine (HIN.out _).mono ?_
    rintro e w1 ⟨rfl, rfl⟩
    go_wp2_with fail
    refine (HW.out _ HP.out).mono ?_
    rintro e w1 ⟨rfl, hb1⟩
    go_wp2_with fail
    go_ret
    exact ⟨by rw [HT.out, if_pos h0]; rfl, hb1⟩
  · have hb0 : ((n : Int) % 256 == 0) = false := by rw [hm']; simp; omega
    clear hm'
    go_enter Tryd.func33, Tryd.ntmps33
    go_wp2_with fail
    refine (HIN.out _).mono ?_
    rintro e w1 ⟨rfl, rfl⟩
    go_wp2_with fail
    refine (HW.out _ HP.out).mono ?_
    rintro e w1 ⟨rfl, hb1⟩
    have HP1 := Lib.hid (HP.out.later hb1)
    have HB1 := Lib.hid hb1
    clear hb1
    go_wp2_with fail
    refine (HF.out _ HP1.out).mono ?_
    rintro e w2 ⟨rfl, hb2⟩
    have HB2 := Lib.hid (HB1.out.trans (hb2.mono HB1.out.size))
    clear hb2
    go_wp2_with fail
    go_ret
    exact ⟨by rw [HT.out, if_neg h0]; rfl, HB2.out⟩

theorem formatNumber_no (n : Int) (w : World) (hn : n < 0 ∨ 2559999 < n) :
    Calls Tryd.prog 33 #[.int .i64 n] w fun e w' => e = .returned (.string ⟨#[]⟩) ∧ w = w' := by
  have HIN := Lib.hid (fun W => isWithinN_no n 0 2559999 W hn)
  go_enter Tryd.func33, Tryd.ntmps33
  go_wp2_with fail
  refine (HIN.out _).mono ?_
  rintro e w1 ⟨rfl, rfl⟩
  go_wp2_with fail
  go_ret
  exact ⟨rfl, rfl⟩

theorem sFormatNumber_no (n : Int) (w : World) (hn : n < 0 ∨ 2559999 < n) :
    Calls Tryd.prog 25 #[.int .i64 n] w fun e w' => e = .returned (.string ⟨#[]⟩) ∧ w = w' := by
  have HIN := Lib.hid (fun W => in_no n 0 2559999 W hn)
  go_enter Tryd.func25, Tryd.ntmps25
  go_wp2_with fail
  refine (HIN.out _).mono ?_
  rintro e w1 ⟨rfl, rfl⟩
  go_wp2_with fail
  go_ret
  exact ⟨rfl, rfl⟩

set_option maxRecDepth 100000 in
set_option maxHeartbeats 2000000 in
theorem sPad_any (u d : Nat) (w : World) (hu : u ≤ 10000) (hd : d ≤ 4) :
    Calls Tryd.prog 40 #[.int .i64 u, .int .i64 d] w fun e w' => e = .returned (.string (strOf (padZ (Lib.decDigits u) d))) ∧ Below w.heap.size w w' := by
  have hfm := fun W => sFormat_nat u W (by omega)
  have hl0 := digits_len u (by omega)
  have HFM := Lib.hid hfm
  clear hfm
  go_enter Tryd.func40, Tryd.ntmps40
  go_wp2_with fail
  refine (HFM.out _).mono ?_
  rintro e w1 ⟨rfl, hb⟩
  have HB := Lib.hid hb
  clear hb
  obtain ⟨l0, hl⟩ : ∃ l0, l0 = Lib.decDigits u := ⟨_, rfl⟩
  rw [← hl] at hl0 ⊢
  have HL := Lib.hid hl
  clear hl
  go_wp2_with fail
  go_loop [5] (fun s => ∃ l, s = .string (strOf l) ∧ l.length ≤ 10 ∧ padZ l d = padZ l0 d) (fun s => 20 - Lib.strSize s)
  case atStart => exact ⟨l0, rfl, hl0, rfl⟩
  case round =>
    obtain ⟨l, rfl, hl10, hpad⟩ := hrel
    have hsz := strOf_size l
    have HPAD := Lib.hid hpad
    clear hpad
    by_cases hlt : l.length < d
    · have hlt' : ((strOf l).size : Int) < (d : Int) := by omega
      have h1 : (⟨#[48]⟩ : ByteArray).size = 1 := rfl
      go_wp2_with fail
      go_round
      case rel => exact ⟨48 :: l, by rw [show (⟨#[48]⟩ : ByteArray) = strOf [48] from rfl, strOf_append]; rfl, by simp; omega, by rw [padZ_step _ _ hlt]; exact HPAD.out⟩
      case measure => rw [Lib.strSize_string, Lib.strSize_string]; rw [show (⟨#[48]⟩ : ByteArray) = strOf [48] from rfl, strOf_append, strOf_size, strOf_size]; simp; omega
    · have hge : ¬ ((strOf l).size : Int) < (d : Int) := by omega
      go_wp2_with fail
      go_ret
      exact ⟨by rw [← HL.out, ← HPAD.out, padZ_done _ _ (by omega)]; rfl, HB.out⟩

set_option maxRecDepth 100000 in
set_option maxHeartbeats 4000000 in
theorem sFormatNumber_any (n d : Nat) (w : World) (hn : n ≤ 2559999) (hd : Dg (n % 256) d) :
    Calls Tryd.prog 25 #[.int .i64 n] w fun e w' => e = .returned (.string (numT n d)) ∧ Below w.heap.size w w' := by
  have hw := fun W => sFormat_nat (n / 256) W (by omega)
  have hl := digits_len (n / 256) (by omega)
  have hlt := lf_lt (by omega) hd
  have hlp := dl_len _ d hd.1 hlt
  have hq : (n : Int).tdiv 256 = ((n / 256 : Nat) : Int) := by
    rw [Int.tdiv_eq_ediv_of_nonneg (by omega)]; omega
  have hm : (n : Int).tmod 256 = ((n % 256 : Nat) : Int) := by
    rw [Int.tmod_eq_emod_of_nonneg (by omega)]; omega
  have hq' : (n : Int) / 256 = ((n / 256 : Nat) : Int) := by omega
  have hm' : (n : Int) % 256 = ((n % 256 : Nat) : Int) := by omega
  obtain ⟨hd1, hd3, hde, hdn⟩ := hd
  have hps : (strOf (padZ (Lib.decDigits (lfP (n % 256) d)) d)).size = d := by
    rw [strOf_size]; unfold padZ; simp; omega
  have hT : numT n d = if n % 256 = 0 then strOf (Lib.decDigits (n / 256)) else strOf (Lib.decDigits (n / 256)) ++ (⟨#[46]⟩ : ByteArray) ++ strOf (padZ (Lib.decDigits (lfP (n % 256) d)) d) := by
    unfold numT
    split
    · rfl
    · rw [show (⟨#[46]⟩ : ByteArray) = strOf [46] from rfl, strOf_append, strOf_append]; simp
  have hsz := strOf_size (Lib.decDigits (n / 256))
  have hr255 : n % 256 ≤ 255 := by omega
  obtain ⟨T, hTT⟩ : ∃ T, T = numT n d := ⟨_, rfl⟩
  rw [← hTT] at hT ⊢
  obtain ⟨a, ha⟩ : ∃ a, a = strOf (Lib.decDigits (n / 256)) := ⟨_, rfl⟩
  obtain ⟨q, hqq⟩ : ∃ q, q = n / 256 := ⟨_, rfl⟩
  obtain ⟨r, hr⟩ : ∃ r, r = n % 256 := ⟨_, rfl⟩
  rw [← ha] at hw hT hsz
  rw [← hqq] at hw hq hq' hl hsz
  rw [← hr] at hm hm' hT hps hde hdn hr255 hlt
  have hsa : a.size ≤ 10 := by omega
  have HW := Lib.hid hw
  have HT := Lib.hid hT
  have HDE := Lib.hid hde
  have HDN := Lib.hid hdn
  have HLT := Lib.hid hlt
  have hin := fun W => in_yes (n : Int) 0 2559999 W (by omega) (by omega)
  have HIN := Lib.hid hin
  clear hw hT ha hqq hTT hlp hsz hl hin hde hdn hlt hm hr
  by_cases h0 : r = 0
  · have hb0 : ((n : Int) % 256 == 0) = true := by rw [hm']; simp [h0]
    clear hm'
    go_enter Tryd.func25, Tryd.ntmps25
    go_wp2_with fail
    refine (HIN.out _).mono ?_
    rintro e w1 ⟨rfl, rfl⟩
    go_wp2_with fail
    refine (HW.out _).mono ?_
    rintro e w1 ⟨rfl, hb1⟩
    go_wp2_with fail
    go_ret
    exact ⟨by rw [HT.out, if_pos h0]; rfl, hb1⟩
  · have hb0 : ((n : Int) % 256 == 0) = false := by rw [hm']; simp; omega
    have HM := Lib.hid hm'
    clear hm'
    go_enter Tryd.func25, Tryd.ntmps25
    go_wp2_with fail
    refine (HIN.out _).mono ?_
    rintro e w1 ⟨rfl, rfl⟩
    go_wp2_with fail
    refine (HW.out _).mono ?_
    rintro e w1 ⟨rfl, hb1⟩
    have HB1 := Lib.hid hb1
    clear hb1
    go_wp2_with fail
    go_loop [5, 6] (fun p i => ∃ j : Nat, 1 ≤ j ∧ j ≤ d ∧ i = .int .i64 j ∧ p = .int .i64 (p10 (j - 1) : Nat)) (fun _ i => d - (intOf i).toNat)
    case atStart => exact ⟨1, Nat.le_refl _, hd1, rfl, rfl⟩
    case round =>
      obtain ⟨j, hj1, hj, rfl, rfl⟩ := hrel
      obtain ⟨k1, k2⟩ := pow_bd (k := j - 1) (by omega)
      change 1 ≤ p10 (j - 1) at k1
      change p10 (j - 1) ≤ 10000 at k2
      obtain ⟨k3, k4⟩ := pow_bd (k := j) (by omega)
      have hst : p10 j = p10 (j - 1) * 10 := by
        obtain ⟨i, rfl⟩ : ∃ i, j = i + 1 := ⟨j - 1, by omega⟩
        exact Nat.pow_succ ..
      change 1 ≤ p10 j at k3
      change p10 j ≤ 10000 at k4
      have hfl : lfP r j = (r * p10 j + 255) / 256 := rfl
      have hun : uniP (lfP r j) j = lfP r j * 256 / p10 j := rfl
      have hl := lf_le r j hr255 (by omega)
      have hpd := fun W => sPad_any (lfP r j) j W hl (by omega)
      have hps2 : (strOf (padZ (Lib.decDigits (lfP r d)) d)).size = d := hps
      have hne : j < d → uniP (lfP r j) j ≠ r := HDN.out j hj1
      have hyes : j = d → uniP (lfP r j) j = r ∧ lfP r j < p10 j := fun e => by subst e; exact ⟨HDE.out, HLT.out⟩
      obtain ⟨p1, hp1⟩ : ∃ p1, p1 = p10 (j - 1) := ⟨_, rfl⟩
      obtain ⟨p, hp⟩ : ∃ p, p = p10 j := ⟨_, rfl⟩
      obtain ⟨f, hf⟩ : ∃ f, f = lfP r j := ⟨_, rfl⟩
      obtain ⟨u, hu⟩ : ∃ u, u = uniP f j := ⟨_, rfl⟩
      rw [← hf] at hfl hun hl hpd hne hyes
      rw [← hu] at hun hne hyes
      rw [← hp] at hfl hun hst hyes k3 k4
      rw [← hp1] at hst k1 k2 ⊢
      obtain ⟨m, hm0⟩ : ∃ m, m = r * p := ⟨_, rfl⟩
      have hmb : m ≤ 2550000 := by rw [hm0]; exact Nat.le_trans (Nat.mul_le_mul hr255 k4) (by omega)
      rw [← hm0] at hfl
      have hpi : (p1 : Int) * 10 = (p : Int) := by omega
      have hmi : (n : Int) % 256 * (p : Int) = (m : Int) := by rw [HM.out, hm0]; push_cast; rfl
      have hfi : ((m : Int) + 255) / 256 = (f : Int) := by omega
      have hfi' : ((m : Int) + 255).tdiv 256 = (f : Int) := by rw [Int.tdiv_eq_ediv_of_nonneg (by omega)]; exact hfi
      have hui : (f : Int) * 256 / (p : Int) = (u : Int) := by rw [hun]; push_cast; rfl
      have hui' : ((f : Int) * 256).tdiv (p : Int) = (u : Int) := by rw [Int.tdiv_eq_ediv_of_nonneg (by omega)]; exact hui
      have hub : u ≤ 2560000 := by rw [hun]; exact Nat.le_trans (Nat.div_le_self _ _) (by omega)
      have HST := Lib.hid hp
      have HPD := Lib.hid hpd
      have HFF := Lib.hid hf
      have hp0 : ¬ (p : Int) = 0 := by omega
      clear hp1 hp hf hu hm0 hst hfl hun hpd
      by_cases hjd : j < d
      · have hur := hne hjd
        have hbu : ((u : Int) == (n : Int) % 256) = false := by rw [HM.out]; simp; omega
        clear hne hyes
        by_cases hfp : f < p
        · have hb1 : decide ((f : Int) < (p : Int)) = true := decide_eq_true (by omega)
          go_wp2_with fail
          go_round
          case rel => exact ⟨j + 1, by omega, by omega, by go_num, by rw [show j + 1 - 1 = j by omega, ← HST.out]⟩
          case measure => simp [intOf]; omega
        · have hb1 : decide ((f : Int) < (p : Int)) = false := decide_eq_false (by omega)
          go_wp2_with fail
          go_round
          case rel => exact ⟨j + 1, by omega, by omega, by go_num, by rw [show j + 1 - 1 = j by omega, ← HST.out]⟩
          case measure => simp [intOf]; omega
      · obtain rfl : j = d := by omega
        obtain ⟨hur, hfp⟩ := hyes rfl
        have hbu : ((u : Int) == (n : Int) % 256) = true := by rw [HM.out]; simp [hur]
        have hb1 : decide ((f : Int) < (p : Int)) = true := decide_eq_true (by omega)
        rw [← HFF.out] at hps
        obtain ⟨b, hb⟩ : ∃ b, b = strOf (padZ (Lib.decDigits f) j) := ⟨_, rfl⟩
        have HB' := Lib.hid hb
        rw [← hb] at hps
        have HPD2 : Hid (∀ W, Calls Tryd.prog 40 #[.int .i64 f, .int .i64 j] W fun e w' => e = .returned (.string b) ∧ Below W.heap.size W w') := Lib.hid (fun W => by rw [hb]; exact HPD.out W)
        clear hne hyes hb HPD
        go_wp2_with fail
        refine (HPD2.out _).mono ?_
        rintro e w2 ⟨rfl, hb2⟩
        have HB2 := Lib.hid (HB1.out.trans (hb2.mono HB1.out.size))
        clear hb2
        go_wp2_with fail
        go_ret
        exact ⟨by rw [HT.out, if_neg h0, ← HFF.out, ← HB'.out]; rfl, HB2.out⟩
end Go.Proofs.YtkbdnjhgcoihhaaDoor
