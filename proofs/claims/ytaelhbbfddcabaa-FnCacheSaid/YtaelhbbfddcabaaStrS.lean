/- Contracts over slices of strings: the laws' own helpers markText, eqStringS, markStringS, heldStringS. -/
import Derived.Test.YtaelhbbfddcabaaProg
import Derived.Test.YtaelhbbfddcabaaMem
import Derived.WalkKit
import Derived.WalkSpells
import Derived.WalkLawsBesides
import Derived.Lib.Hide
import Derived.BigQuiet
import Derived.Deep.QuietTactic
import Derived.Laws.IdiomStrings
import Derived.Deep.RegionHeld3
namespace Go.Proofs.Ytaelhbbfddcabaa
open Go.RowKit

def dig (n : Nat) (acc : List UInt8) : List UInt8 := if _h : n = 0 then acc else dig (n / 10) ((48 + n % 10).toUInt8 :: acc)
termination_by n
decreasing_by omega
def strOf (l : List UInt8) : ByteArray := ⟨l.toArray⟩
def markP (n : Nat) : ByteArray := strOf (109 :: dig n [])
abbrev Str : ByteArray → Value := Value.string
theorem strOf_size (l : List UInt8) : (strOf l).size = l.length := by simp [strOf, ByteArray.size]
theorem strOf_append (l m : List UInt8) : strOf l ++ strOf m = strOf (l ++ m) := by
  apply ByteArray.ext
  simp [strOf]
theorem strOf_one (c : UInt8) (m : List UInt8) : (⟨#[c]⟩ : ByteArray) ++ strOf m = strOf (c :: m) := strOf_append [c] m
theorem dig_step (m : Nat) (acc : List UInt8) (h : 0 < m) : dig (m / 10) ((48 + m % 10).toUInt8 :: acc) = dig m acc := by
  rw [dig.eq_1 m acc, dif_neg (by omega)]
theorem dig_zero (acc : List UInt8) : dig 0 acc = acc := by rw [dig.eq_1, dif_pos rfl]
theorem ret_int' {k : IntKind} {a b : Int} (h : a = b) : Ending.returned (.int k a) = .returned (.int k b) := by rw [h]
theorem ret_str {a b : ByteArray} (h : a = b) : Ending.returned (.string a) = .returned (.string b) := by rw [h]
/-- 'string' of a new one-byte slice -/
theorem run_conv_one (P : Program) (w : World) (src dst e : TypeId) (hs : P.underlying src = some (.slice e)) (he : P.underlying e = some (.int .u8)) (hd : P.underlying dst = some .string) (z : Int) (h0 : 0 ≤ z) (h1 : z < 256) :
    (convert src dst (.slice (some ⟨w.heap.size, 0, none⟩) 1 1)).run P (w.alloc (.cells #[.int .u8 z] e)) = .ok (.string (strOf [z.toNat.toUInt8])) (w.alloc (.cells #[.int .u8 z] e)) := by
  refine run_convert_bytes_back (P := P) (w.alloc (.cells #[.int .u8 z] e)) src dst e ⟨w.heap.size, 0, none⟩ 1 [z.toNat.toUInt8] hs he hd (fun j hj => ?_)
  obtain rfl : j = 0 := by simp at hj; omega
  simp [Addr.add]
  omega





end Go.Proofs.Ytaelhbbfddcabaa
