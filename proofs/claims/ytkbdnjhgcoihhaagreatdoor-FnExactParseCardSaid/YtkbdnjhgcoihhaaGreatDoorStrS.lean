/- Contracts over slices of strings: the laws' own helpers markText, eqStringS, markStringS, heldStringS. -/
import Derived.Test.YtkbdnjhgcoihhaaGreatDoorProg
import Derived.Test.YtkbdnjhgcoihhaaGreatDoorMem
import Derived.WalkKit
import Derived.WalkSpells
import Derived.WalkLawsBesides
import Derived.Lib.Hide
import Derived.BigQuiet
import Derived.Deep.QuietTactic
import Derived.Laws.IdiomStrings
import Derived.Deep.RegionHeld3
namespace Go.Proofs.YtkbdnjhgcoihhaaGreatDoor
open Go.RowKit

def dig (n : Nat) (acc : List UInt8) : List UInt8 := if _h : n = 0 then acc else dig (n / 10) ((48 + n % 10).toUInt8 :: acc)
termination_by n
decreasing_by omega
def strOf (l : List UInt8) : ByteArray := ⟨l.toArray⟩
def markP (n : Nat) : ByteArray := strOf (109 :: dig n [])
abbrev Str : ByteArray → Value := Value.string
theorem strOf_size (l : List UInt8) : (strOf l).size = l.length := by simp [strOf, ByteArray.size]
theorem strOf_append (l m : List UInt8) : strOf l ++ strOf m = strOf (l ++ m) := by
  apply ByteArray.ext
  simp [strOf]
theorem strOf_one (c : UInt8) (m : List UInt8) : (⟨#[c]⟩ : ByteArray) ++ strOf m = strOf (c :: m) := strOf_append [c] m
theorem dig_step (m : Nat) (acc : List UInt8) (h : 0 < m) : dig (m / 10) ((48 + m % 10).toUInt8 :: acc) = dig m acc := by
  rw [dig.eq_1 m acc, dif_neg (by omega)]
theorem dig_zero (acc : List UInt8) : dig 0 acc = acc := by rw [dig.eq_1, dif_pos rfl]
theorem ret_int' {k : IntKind} {a b : Int} (h : a = b) : Ending.returned (.int k a) = .returned (.int k b) := by rw [h]
theorem ret_str {a b : ByteArray} (h : a = b) : Ending.returned (.string a) = .returned (.string b) := by rw [h]
/-- 'string' of a new one-byte slice -/
theorem run_conv_one (P : Program) (w : World) (src dst e : TypeId) (hs : P.underlying src = some (.slice e)) (he : P.underlying e = some (.int .u8)) (hd : P.underlying dst = some .string) (z : Int) (h0 : 0 ≤ z) (h1 : z < 256) :
    (convert src dst (.slice (some ⟨w.heap.size, 0, none⟩) 1 1)).run P (w.alloc (.cells #[.int .u8 z] e)) = .ok (.string (strOf [z.toNat.toUInt8])) (w.alloc (.cells #[.int .u8 z] e)) := by
  refine run_convert_bytes_back (P := P) (w.alloc (.cells #[.int .u8 z] e)) src dst e ⟨w.heap.size, 0, none⟩ 1 [z.toNat.toUInt8] hs he hd (fun j hj => ?_)
  obtain rfl : j = 0 := by simp at hj; omega
  simp [Addr.add]
  omega

set_option maxHeartbeats 400000 in
theorem markText_any (n : Nat) (w : World) (h1 : 1 ≤ n) (h2 : n ≤ 4611686018427387904) :
    Calls Tryz.prog 34 #[.int .i64 n] w fun e w' => e = .returned (.string (markP n)) ∧ Below w.heap.size w w' := by
  go_enter Tryz.func34, Tryz.ntmps34
  go_wp2
  go_loopw [0, 3] (fun x s wr => ∃ (m : Nat) (acc : List UInt8), m ≤ n ∧ x = .int .i64 m ∧ s = .string (strOf acc) ∧ dig m acc = dig n [] ∧ acc.length ≤ n - m ∧ Below w.heap.size w wr) (fun x _ _ => (intOf x).toNat)
  case atStart => exact ⟨n, [], Nat.le_refl _, rfl, rfl, rfl, by simp, Below.refl _ _⟩
  case round =>
    obtain ⟨m, acc, hm, rfl, rfl, hd, hl, hb⟩ := hrel
    have HD := Lib.hid hd
    have HB := Lib.hid hb
    clear hd hb
    by_cases h0 : 0 < m
    · have h0' : (0 : Int) < (m : Int) := by omega
      have hsz : (strOf acc).size ≤ 4611686018427387904 := by rw [strOf_size]; omega
      obtain ⟨d, hd1, hcv⟩ : ∃ d : UInt8, d = (48 + m % 10).toUInt8 ∧ ∀ W : World, (convert 78 9 (.slice (some ⟨W.heap.size, 0, none⟩) 1 1)).run Tryz.prog (W.alloc (.cells #[.int .u8 (48 + (m : Int) % 10)] 5)) = .ok (.string (strOf [d])) (W.alloc (.cells #[.int .u8 (48 + (m : Int) % 10)] 5)) :=
        ⟨_, rfl, fun W => run_conv_one Tryz.prog W 78 9 5 Tryz.underlying78 Tryz.underlying5 Tryz.underlying9 (48 + (m : Int) % 10) (by omega) (by omega)⟩
      have hs1 : (strOf [d]).size = 1 := strOf_size [d]
      have HE := Lib.hid hd1
      clear hd1
      go_wp2
      go_roundw
      case rel => exact ⟨m / 10, d :: acc, by omega, by go_num, by rw [strOf_append]; rfl, by rw [HE.out, dig_step m acc h0]; exact HD.out, by simp; omega, (HB.out).alloc (HB.out).size _⟩
      case measure => simp [intOf]; omega
    · have hsz := strOf_size acc
      have hsz' : (strOf acc).size ≤ 4611686018427387904 := by omega
      clear hsz
      go_wp2
      go_ret
      obtain rfl : m = 0 := by omega
      exact ⟨ret_str (by rw [strOf_one]; unfold markP; rw [← HD.out, dig_zero]), HB.out⟩




end Go.Proofs.YtkbdnjhgcoihhaaGreatDoor
