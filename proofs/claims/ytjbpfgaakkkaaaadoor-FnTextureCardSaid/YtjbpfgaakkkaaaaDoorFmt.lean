/- Contracts of FormatInt, in the program and in its model. -/
import Derived.Test.YtjbpfgaakkkaaaaDoorProg
import Derived.Test.YtjbpfgaakkkaaaaDoorMem
import Derived.Test.YtjbpfgaakkkaaaaDoorStrS
import Derived.Test.YtjbpfgaakkkaaaaDoorShelf
import Derived.Test.YtjbpfgaakkkaaaaDoorNumP
import Derived.Test.YtjbpfgaakkkaaaaDoorIn
import Derived.WalkKit
import Derived.WalkSpells
import Derived.WalkLawsBesides
import Derived.Lib.Hide
import Derived.WalkSmall
import Derived.Lib.LaidTab
import Derived.Lib.AppendIntMem
namespace Go.Proofs.YtjbpfgaakkkaaaaDoor
open Go.RowKit

theorem gPow : Tryd.prog.globalNamed "internal/strconv.uint64pow10" = some 3 := by kernel_rfl
/-- the library's table of powers of ten -/
def Pow (w : World) : Prop := Lib.TabIs Tryd.prog w "internal/strconv.uint64pow10" .u64 Lib.pow10Tab
theorem pow_lt {w : World} (h : Pow w) : 3 < w.heap.size := by
  unfold Pow Lib.TabIs at h
  rcases Nat.lt_or_ge 3 w.heap.size with hl | hl
  · exact hl
  · unfold World.var? at h
    rw [gPow, Option.bind_some, Array.getElem?_eq_none hl] at h
    cases h
theorem pow_below {w0 w w' : World} {B : Nat} (h : Pow w) (hb : Below B w w') (hl : 3 < w0.heap.size) (hB : w0.heap.size ≤ B) : Pow w' := by
  unfold Pow Lib.TabIs at h ⊢
  exact var?_below hb gPow (by omega) h
theorem Pow.later {w w' : World} (h : Pow w) (hb : Below w.heap.size w w') : Pow w' := by
  unfold Pow Lib.TabIs at h ⊢
  refine var?_below hb gPow ?_ h
  rcases Nat.lt_or_ge 3 w.heap.size with hl | hl
  · exact hl
  · unfold World.var? at h
    rw [gPow, Option.bind_some, Array.getElem?_eq_none hl] at h
    cases h

theorem dig_byte (m : Nat) (h : m < 10) : (48 + (m : Int)).toNat.toUInt8 = UInt8.ofNat (48 + m) := by
  have : (48 + (m : Int)).toNat = 48 + m := by omega
  rw [this]
theorem dig_byte' (m : Nat) : (48 + (m : Int) % 10).toNat.toUInt8 = UInt8.ofNat (48 + m % 10) := by
  have : (48 + (m : Int) % 10).toNat = 48 + m % 10 := by omega
  rw [this]
set_option maxHeartbeats 1000000 in
theorem sFormat_nat (n : Nat) (w : World) (h : n ≤ 1000000000) :
    Calls Tryd.prog 36 #[.int .i64 n] w fun e w' => e = .returned (.string (strOf (Lib.decDigits n))) ∧ Below w.heap.size w w' := by
  have b1 : (-1000000000 : Int) ≤ (n : Int) := by omega
  have b2 : (n : Int) ≤ 1000000000 := by omega
  go_enter Tryd.func36, Tryd.ntmps36
  go_wp2_with (go_at_call 61; refine (in_yes _ _ _ _ b1 b2).mono ?_; rintro e w' ⟨rfl, rfl⟩)
  go_loopw [0, 3] (fun x s wr => ∃ (m : Nat) (acc : List UInt8), m ≤ n ∧ x = .int .i64 m ∧ s = .string (strOf acc) ∧ Lib.decDigits m ++ acc = Lib.decDigits n ∧ acc.length ≤ n - m ∧ Below w.heap.size w wr) (fun x _ _ => (intOf x).toNat)
  case atStart => exact ⟨n, [], Nat.le_refl _, rfl, rfl, by simp, by simp, Below.refl _ _⟩
  case round =>
    obtain ⟨m, acc, hm, rfl, rfl, hd, hl, hb⟩ := hrel
    have HD := Lib.hid hd
    have HB := Lib.hid hb
    have hsz : (strOf acc).size ≤ 4611686018427387904 := by rw [strOf_size]; omega
    clear hd hb
    by_cases h9 : (9 : Int) < (m : Int)
    · obtain ⟨d, hd1, hcv⟩ : ∃ d : UInt8, d = (48 + (m : Int) % 10).toNat.toUInt8 ∧ ∀ W : World, (convert 22 9 (.slice (some ⟨W.heap.size, 0, none⟩) 1 1)).run Tryd.prog (W.alloc (.cells #[.int .u8 (48 + (m : Int) % 10)] 5)) = .ok (.string (strOf [d])) (W.alloc (.cells #[.int .u8 (48 + (m : Int) % 10)] 5)) :=
        ⟨_, rfl, fun W => run_conv_one Tryd.prog W 22 9 5 Tryd.underlying22 Tryd.underlying5 Tryd.underlying9 (48 + (m : Int) % 10) (by omega) (by omega)⟩
      have hs1 : (strOf [d]).size = 1 := strOf_size [d]
      have HE := Lib.hid hd1
      clear hd1
      have hst : Lib.decDigits (m / 10) ++ (UInt8.ofNat (48 + m % 10) :: acc) = Lib.decDigits m ++ acc := by
        rw [Lib.decDigits.eq_1 m, dif_neg (by omega)]; simp
      have HST := Lib.hid hst
      clear hst
      go_wp2
      go_roundw
      case rel => exact ⟨m / 10, d :: acc, by omega, by go_num, by rw [strOf_append]; rfl, by rw [HE.out, dig_byte', HST.out]; exact HD.out, by simp; omega, (HB.out).alloc (HB.out).size _⟩
      case measure => simp [intOf]; omega
    · obtain ⟨d, hd1, hcv⟩ : ∃ d : UInt8, d = (48 + (m : Int)).toNat.toUInt8 ∧ ∀ W : World, (convert 22 9 (.slice (some ⟨W.heap.size, 0, none⟩) 1 1)).run Tryd.prog (W.alloc (.cells #[.int .u8 (48 + (m : Int))] 5)) = .ok (.string (strOf [d])) (W.alloc (.cells #[.int .u8 (48 + (m : Int))] 5)) :=
        ⟨_, rfl, fun W => run_conv_one Tryd.prog W 22 9 5 Tryd.underlying22 Tryd.underlying5 Tryd.underlying9 (48 + (m : Int)) (by omega) (by omega)⟩
      have hs1 : (strOf [d]).size = 1 := strOf_size [d]
      have HE := Lib.hid hd1
      clear hd1
      go_wp2
      go_ret
      exact ⟨ret_str (by rw [strOf_append, HE.out, dig_byte m (by omega), ← HD.out, Lib.decDigits.eq_1 m, dif_pos (by omega)]), (HB.out).alloc (HB.out).size _⟩
set_option maxHeartbeats 1000000 in
theorem sFormat_any (n : Int) (w : World) :
    Calls Tryd.prog 36 #[.int .i64 n] w fun e w' => e = .returned (.string (fmtP n)) ∧ Below w.heap.size w w' := by
  by_cases h0 : n < -1000000000
  · go_enter Tryd.func36, Tryd.ntmps36
    go_wp2_with (go_at_call 61; refine (in_no _ _ _ _ (by omega)).mono ?_; rintro e w' ⟨rfl, rfl⟩)
    go_ret
    exact ⟨ret_str (by unfold fmtP; rw [if_neg (by omega)]), Below.refl _ _⟩
  · by_cases h1 : 1000000000 < n
    · go_enter Tryd.func36, Tryd.ntmps36
      go_wp2_with (go_at_call 61; refine (in_no _ _ _ _ (by omega)).mono ?_; rintro e w' ⟨rfl, rfl⟩)
      go_ret
      exact ⟨ret_str (by unfold fmtP; rw [if_neg (by omega)]), Below.refl _ _⟩
    · by_cases hn : n < 0
      · obtain ⟨u, rfl⟩ : ∃ u : Nat, n = -(u : Int) := ⟨(-n).toNat, by omega⟩
        have hl := digits_len u (by omega)
        have hsz : (strOf (Lib.decDigits u)).size ≤ 10 := by rw [strOf_size]; exact hl
        have b1 : (-1000000000 : Int) ≤ -(u : Int) := by omega
        have b2 : -(u : Int) ≤ 1000000000 := by omega
        have b3 : -(u : Int) < 0 := hn
        go_enter Tryd.func36, Tryd.ntmps36
        go_wp2_with (go_at_call 61; refine (in_yes _ _ _ _ b1 b2).mono ?_; rintro e w' ⟨rfl, rfl⟩)
        refine (sFormat_nat u _ (by omega)).mono ?_
        rintro e w1 ⟨rfl, hb⟩
        have HB := Lib.hid hb
        clear hb
        obtain ⟨ds, hds⟩ : ∃ ds, ds = Lib.decDigits u := ⟨_, rfl⟩
        rw [← hds] at hsz ⊢
        have HDS := Lib.hid hds
        clear hds hl
        go_wp2_with fail
        go_ret
        exact ⟨ret_str (by rw [strOf_one]; unfold fmtP; rw [if_pos (by omega), Lib.itoa_neg u (by omega), HDS.out]), HB.out⟩
      · obtain ⟨u, rfl⟩ : ∃ u : Nat, n = (u : Int) := ⟨n.toNat, by omega⟩
        refine (sFormat_nat u w (by omega)).mono ?_
        rintro e w' ⟨rfl, hb⟩
        exact ⟨ret_str (by unfold fmtP; rw [if_pos (by omega), Lib.itoa_nonneg]), hb⟩

set_option maxHeartbeats 400000 in
theorem format_any (n : Int) (w : World) (hp : Pow w) :
    Calls Tryd.prog 26 #[.int .i64 n] w fun e w' => e = .returned (.string (fmtP n)) ∧ Below w.heap.size w w' := by
  by_cases h0 : n < -1000000000
  · go_enter Tryd.func26, Tryd.ntmps26
    go_wp2_with fail
    go_ret
    exact ⟨ret_str (by unfold fmtP; rw [if_neg (by omega)]), Below.refl _ _⟩
  · by_cases h1 : 1000000000 < n
    · go_enter Tryd.func26, Tryd.ntmps26
      go_wp2_with fail
      go_ret
      exact ⟨ret_str (by unfold fmtP; rw [if_neg (by omega)]), Below.refl _ _⟩
    · have HP := Lib.hid hp
      clear hp
      go_enter Tryd.func26, Tryd.ntmps26
      go_wp2_with fail
      refine (Tryd.strconv_Itoa n (by omega) (by omega) _ HP.out).mono ?_
      rintro e w1 ⟨rfl, k, os, rfl⟩
      go_wp2_with fail
      go_ret
      exact ⟨ret_str (by unfold fmtP strOf; rw [if_pos (by omega)]), Lib.below_grow _ _ (Nat.le_refl _) _ _⟩

end Go.Proofs.YtjbpfgaakkkaaaaDoor
