/- Contracts over slices of strings: the laws' own helpers markText, eqStringS, markStringS, heldStringS. -/
import Derived.Test.YtkkjkbloappdhaaProg
import Derived.Test.YtkkjkbloappdhaaMem
import Derived.WalkKit
import Derived.WalkSpells
import Derived.WalkLawsBesides
import Derived.Lib.Hide
import Derived.BigQuiet
import Derived.Deep.QuietTactic
import Derived.Laws.IdiomStrings
import Derived.Deep.RegionHeld3
namespace Go.Proofs.Ytkkjkbloappdhaa
open Go.RowKit

def dig (n : Nat) (acc : List UInt8) : List UInt8 := if _h : n = 0 then acc else dig (n / 10) ((48 + n % 10).toUInt8 :: acc)
termination_by n
decreasing_by omega
def strOf (l : List UInt8) : ByteArray := ⟨l.toArray⟩
def markP (n : Nat) : ByteArray := strOf (109 :: dig n [])
abbrev Str : ByteArray → Value := Value.string
theorem strOf_size (l : List UInt8) : (strOf l).size = l.length := by simp [strOf, ByteArray.size]
theorem strOf_append (l m : List UInt8) : strOf l ++ strOf m = strOf (l ++ m) := by
  apply ByteArray.ext
  simp [strOf]
theorem strOf_one (c : UInt8) (m : List UInt8) : (⟨#[c]⟩ : ByteArray) ++ strOf m = strOf (c :: m) := strOf_append [c] m
theorem dig_step (m : Nat) (acc : List UInt8) (h : 0 < m) : dig (m / 10) ((48 + m % 10).toUInt8 :: acc) = dig m acc := by
  rw [dig.eq_1 m acc, dif_neg (by omega)]
theorem dig_zero (acc : List UInt8) : dig 0 acc = acc := by rw [dig.eq_1, dif_pos rfl]
theorem ret_int' {k : IntKind} {a b : Int} (h : a = b) : Ending.returned (.int k a) = .returned (.int k b) := by rw [h]
theorem ret_str {a b : ByteArray} (h : a = b) : Ending.returned (.string a) = .returned (.string b) := by rw [h]
/-- 'string' of a new one-byte slice -/
theorem run_conv_one (P : Program) (w : World) (src dst e : TypeId) (hs : P.underlying src = some (.slice e)) (he : P.underlying e = some (.int .u8)) (hd : P.underlying dst = some .string) (z : Int) (h0 : 0 ≤ z) (h1 : z < 256) :
    (convert src dst (.slice (some ⟨w.heap.size, 0, none⟩) 1 1)).run P (w.alloc (.cells #[.int .u8 z] e)) = .ok (.string (strOf [z.toNat.toUInt8])) (w.alloc (.cells #[.int .u8 z] e)) := by
  refine run_convert_bytes_back (P := P) (w.alloc (.cells #[.int .u8 z] e)) src dst e ⟨w.heap.size, 0, none⟩ 1 [z.toNat.toUInt8] hs he hd (fun j hj => ?_)
  obtain rfl : j = 0 := by simp at hj; omega
  simp [Addr.add]
  omega

set_option maxHeartbeats 400000 in
theorem markText_any (n : Nat) (w : World) (h1 : 1 ≤ n) (h2 : n ≤ 4611686018427387904) :
    Calls Try.prog 20 #[.int .i64 n] w fun e w' => e = .returned (.string (markP n)) ∧ Below w.heap.size w w' := by
  go_enter Try.func20, Try.ntmps20
  go_wp2
  go_loopw [0, 3] (fun x s wr => ∃ (m : Nat) (acc : List UInt8), m ≤ n ∧ x = .int .i64 m ∧ s = .string (strOf acc) ∧ dig m acc = dig n [] ∧ acc.length ≤ n - m ∧ Below w.heap.size w wr) (fun x _ _ => (intOf x).toNat)
  case atStart => exact ⟨n, [], Nat.le_refl _, rfl, rfl, rfl, by simp, Below.refl _ _⟩
  case round =>
    obtain ⟨m, acc, hm, rfl, rfl, hd, hl, hb⟩ := hrel
    have HD := Lib.hid hd
    have HB := Lib.hid hb
    clear hd hb
    by_cases h0 : 0 < m
    · have h0' : (0 : Int) < (m : Int) := by omega
      have hsz : (strOf acc).size ≤ 4611686018427387904 := by rw [strOf_size]; omega
      obtain ⟨d, hd1, hcv⟩ : ∃ d : UInt8, d = (48 + m % 10).toUInt8 ∧ ∀ W : World, (convert 43 9 (.slice (some ⟨W.heap.size, 0, none⟩) 1 1)).run Try.prog (W.alloc (.cells #[.int .u8 (48 + (m : Int) % 10)] 5)) = .ok (.string (strOf [d])) (W.alloc (.cells #[.int .u8 (48 + (m : Int) % 10)] 5)) :=
        ⟨_, rfl, fun W => run_conv_one Try.prog W 43 9 5 Try.underlying43 Try.underlying5 Try.underlying9 (48 + (m : Int) % 10) (by omega) (by omega)⟩
      have hs1 : (strOf [d]).size = 1 := strOf_size [d]
      have HE := Lib.hid hd1
      clear hd1
      go_wp2
      go_roundw
      case rel => exact ⟨m / 10, d :: acc, by omega, by go_num, by rw [strOf_append]; rfl, by rw [HE.out, dig_step m acc h0]; exact HD.out, by simp; omega, (HB.out).alloc (HB.out).size _⟩
      case measure => simp [intOf]; omega
    · have hsz := strOf_size acc
      have hsz' : (strOf acc).size ≤ 4611686018427387904 := by omega
      clear hsz
      go_wp2
      go_ret
      obtain rfl : m = 0 := by omega
      exact ⟨ret_str (by rw [strOf_one]; unfold markP; rw [← HD.out, dig_zero]), HB.out⟩

set_option maxHeartbeats 1000000 in
theorem eqStringS_same (A A' : Option Addr) (c c' : Nat) (xs : List ByteArray) (w : World) (hR : Row Str w w.heap.size A xs) (hR' : Row Str w w.heap.size A' xs) (hl : xs.length ≤ 1152921504606846976) :
    Calls Try.prog 9 #[.slice A xs.length c, .slice A' xs.length c'] w fun e w' => e = .returned (.bool true) ∧ Below w.heap.size w w' := by
  go_enter Try.func9, Try.ntmps9
  go_wp2
  go_loopw [5] (fun i wr => ∃ k : Nat, k ≤ xs.length ∧ i = .int .i64 k ∧ Below w.heap.size w wr) (fun i _ => xs.length - (intOf i).toNat)
  case atStart => exact ⟨0, Nat.zero_le _, rfl, Below.refl _ _⟩
  case round =>
    obtain ⟨k, hk, rfl, hb⟩ := hrel
    by_cases hlt : k < xs.length
    · obtain ⟨b, o, rfl, hbl, hc⟩ := hR.at hlt
      obtain ⟨b', o', rfl, hbl', hc'⟩ := hR'.at hlt
      have hc := (hb.cell hbl).trans hc
      have hc' := (hb.cell hbl').trans hc'
      obtain ⟨x, hx⟩ : ∃ x, x = xs[k] := ⟨_, rfl⟩
      rw [← hx] at hc hc'
      have hlt' : (k : Int) < (xs.length : Int) := by omega
      have hge' : (0 : Int) ≤ (k : Int) := by omega
      have HB := Lib.hid hb
      clear hx hR hR' hb
      go_wp2
      go_quiet (fail)
      go_wp2
      go_roundw
      case rel => exact ⟨k + 1, by omega, by go_num, below_drewN HB.out _⟩
      case measure => simp [intOf]; omega
    · have HB := Lib.hid hb
      clear hb hR hR'
      go_wp2
      go_ret
      exact ⟨rfl, HB.out⟩

def marks (k n : Nat) : List ByteArray := (List.range n).map fun i => markP (k + i)
theorem marks_len (k n : Nat) : (marks k n).length = n := by simp [marks]
theorem marks_at (k n i : Nat) (h : i < (marks k n).length) : (marks k n)[i] = markP (k + i) := by simp [marks]
def partly (k i : Nat) (xs : List ByteArray) : List ByteArray := marks k i ++ xs.drop i
theorem partly_zero (k : Nat) (xs : List ByteArray) : partly k 0 xs = xs := by simp [partly, marks]
theorem partly_all (k : Nat) (xs : List ByteArray) : partly k xs.length xs = marks k xs.length := by simp [partly]
theorem partly_len (k i : Nat) (xs : List ByteArray) (h : i ≤ xs.length) : (partly k i xs).length = xs.length := by simp [partly, marks_len]; omega
theorem partly_step (k i : Nat) (xs : List ByteArray) (h : i < xs.length) : (partly k i xs).set i (markP (k + i)) = partly k (i + 1) xs := by
  unfold partly
  rw [List.set_append_right _ _ (by rw [marks_len]; omega), marks_len, Nat.sub_self, List.drop_eq_getElem_cons h, List.set_cons_zero]
  have e : marks k (i + 1) = marks k i ++ [markP (k + i)] := by simp [marks, List.range_succ]
  rw [e, List.append_assoc, List.singleton_append]
set_option maxHeartbeats 1000000 in
theorem markStringS_any (A : Option Addr) (c base k : Nat) (xs : List ByteArray) (w : World) (ho : w.ownsRow base 9 1 (.slice A xs.length c) xs.length (xs.map Str)) (hbase : base ≤ w.heap.size) (hk1 : 1 ≤ k) (hk2 : k + xs.length ≤ 4611686018427387904) :
    Calls Try.prog 12 #[.slice A xs.length c, .int .i64 k] w fun e w' => e = .returned (.int .i64 ((k + xs.length : Nat) : Int)) ∧ w'.ownsRow base 9 1 (.slice A xs.length c) xs.length ((marks k xs.length).map Str) ∧ Below base w w' := by
  have HO := Lib.hid ho
  clear ho
  go_enter Try.func12, Try.ntmps12
  go_wp2
  go_loopw [1, 5] (fun m i wr => ∃ j : Nat, j ≤ xs.length ∧ i = .int .i64 j ∧ m = .int .i64 ((k + j : Nat) : Int) ∧ wr.ownsRow base 9 1 (.slice A xs.length c) xs.length ((partly k j xs).map Str) ∧ Below base w wr) (fun _ i _ => xs.length - (intOf i).toNat)
  case atStart => exact ⟨0, Nat.zero_le _, rfl, rfl, by rw [partly_zero]; exact HO.out, Below.refl _ _⟩
  case round =>
    obtain ⟨j, hj, rfl, rfl, hown, hb⟩ := hrel
    clear HO
    have HO := Lib.hid hown
    have HB := Lib.hid hb
    clear hown hb
    by_cases hlt : j < xs.length
    · obtain ⟨A0, hA⟩ : ∃ g, A = some ⟨g, 0, none⟩ := by
        rcases HO.out.2 with ⟨h, h0⟩ | ⟨g, cap, cur, h, _⟩
        · omega
        · injection h with h; exact ⟨g, h⟩
      subst hA
      have hge := own_block HO.out A0 rfl
      have hlts := (HO.out.lt A0 rfl).2
      go_wp2_with fail
      refine (markText_any (k + j) _ (by omega) (by omega)).mono ?_
      rintro e w2 ⟨rfl, hb2⟩
      have ho2 := own_keep' HO.out hb2
      have hlh : j < (partly k j xs).length := by rw [partly_len _ _ _ hj]; exact hlt
      have hd := ho2.cellAt j (by omega)
      have hf := ho2.frozenAt j
      rw [List.getElem?_map, List.getElem?_eq_getElem hlh, Option.map_some] at hd
      obtain ⟨y, hy⟩ : ∃ y, y = (partly k j xs)[j] := ⟨_, rfl⟩
      rw [← hy] at hd
      have hs := (ho2.stored j (Str (markP (k + j)))).1
      rw [← List.map_set, partly_step _ _ _ hlt] at hs
      have hs' := (HB.out.trans (hb2.mono (Nat.le_trans hbase HB.out.size))).setCell (p := ⟨A0, j, none⟩) hge (Str (markP (k + j)))
      obtain ⟨mk, hmk⟩ : ∃ mk, mk = markP (k + j) := ⟨_, rfl⟩
      rw [← hmk] at hs hs' ⊢
      have HS := Lib.hid hs
      have HS' := Lib.hid hs'
      clear hy ho2 hs hs' hlh hb2 hmk
      go_wp2
      go_roundw
      case rel => exact ⟨j + 1, by omega, by go_num, by go_num, HS.out, HS'.out⟩
      case measure => simp [intOf]; omega
    · have e : j = xs.length := by omega
      have HO2 : Hid (wr.ownsRow base 9 1 (.slice A xs.length c) xs.length ((marks k xs.length).map Str)) := by have := HO.out; rw [e, partly_all] at this; exact this
      have HE := Lib.hid e
      clear e HO
      go_wp2
      go_ret
      exact ⟨ret_int' (by have := HE.out; omega), HO2.out, HB.out⟩

theorem keep_step {w W w' : World} {a : Addr} {v : Value} (ha : a.block < w.heap.size) (h : W.cell? a = some v ∧ Below w.heap.size w W) (hb : Below W.heap.size W w') : w'.cell? a = some v ∧ Below w.heap.size w w' :=
  ⟨(hb.cell (Nat.lt_of_lt_of_le ha h.2.size)).trans h.1, h.2.trans (hb.mono h.2.size)⟩
set_option maxHeartbeats 1000000 in
theorem heldStringS_any (A : Option Addr) (c k n : Nat) (w : World) (hR : Row Str w w.heap.size A (marks k n)) (hk1 : 1 ≤ k) (hk2 : k + n ≤ 4611686018427387904) :
    Calls Try.prog 13 #[.slice A n c, .int .i64 k] w fun e w' => e = .returned (.int .i64 ((k + n : Nat) : Int)) ∧ Below w.heap.size w w' := by
  go_enter Try.func13, Try.ntmps13
  go_wp2
  go_loopw [1, 5] (fun m i wr => ∃ j : Nat, j ≤ n ∧ i = .int .i64 j ∧ m = .int .i64 ((k + j : Nat) : Int) ∧ Below w.heap.size w wr) (fun _ i _ => n - (intOf i).toNat)
  case atStart => exact ⟨0, Nat.zero_le _, rfl, rfl, Below.refl _ _⟩
  case round =>
    obtain ⟨j, hj, rfl, rfl, hb⟩ := hrel
    by_cases hlt : j < n
    · obtain ⟨b, o, rfl, hbl, hc⟩ := hR.at (k := j) (by rw [marks_len]; exact hlt)
      have hc := (hb.cell hbl).trans hc
      rw [marks_at] at hc
      have hct := fun W : World => markText_any (k + j) W (by omega) (by omega)
      obtain ⟨x, hx⟩ : ∃ x, x = markP (k + j) := ⟨_, rfl⟩
      rw [← hx] at hc hct
      have hlt' : (j : Int) < (n : Int) := by omega
      have hge' : (0 : Int) ≤ (j : Int) := by omega
      have HB := Lib.hid hb
      have HCT := Lib.hid hct
      clear hx hR hb hct
      go_wp2
      go_region_held3 (fun w' => w'.cell? ⟨b, o + j, none⟩ = some (.string x) ∧ Below w.heap.size w w') (first | exact ⟨hc, HB.out.drew⟩ | exact keep_step hbl ⟨hc, HB.out⟩ (by assumption) | exact keep_step hbl (by assumption) (by assumption))
        (first | (go_at_call 20; refine (HCT.out _).mono ?_; rintro e w' ⟨rfl, hbm⟩))
      all_goals
        have HB2 : Hid (Below w.heap.size w w') := Lib.hid (And.right (by assumption))
        clear hbm
        go_wp2
        go_roundw
        case rel => exact ⟨j + 1, by omega, by go_num, by go_num, HB2.out⟩
        case measure => simp [intOf]; omega
    · have HE : Hid (j = n) := Lib.hid (by omega)
      have HB := Lib.hid hb
      clear hb hR
      go_wp2
      go_ret
      exact ⟨ret_int' (by have := HE.out; omega), HB.out⟩

end Go.Proofs.Ytkkjkbloappdhaa
