/- Contracts over slices of integers: HashInts, and the laws' own helpers toIntS, eqIntS. -/
import Derived.Test.YtaelhbbfddcabaaProg
import Derived.Test.YtaelhbbfddcabaaInts
import Derived.Test.YtaelhbbfddcabaaMem
import Derived.WalkKit
import Derived.WalkSpells
import Derived.WalkLawsBesides
import Derived.Lib.Hide
import Derived.BigQuiet
import Derived.Deep.QuietTactic
namespace Go.Proofs.Ytaelhbbfddcabaa
open Go.RowKit

def hashP (xs : List Int) : Int := xs.foldl (fun h x => (31 * h + clampP x (-1000000000) 1000000000) % 1000003) 17
theorem hashP_bd (xs : List Int) : 0 ≤ hashP xs ∧ hashP xs < 1000003 := by
  unfold hashP
  suffices H : ∀ (xs : List Int) (a : Int), 0 ≤ a → a < 1000003 → 0 ≤ xs.foldl (fun h x => (31 * h + clampP x (-1000000000) 1000000000) % 1000003) a ∧ xs.foldl (fun h x => (31 * h + clampP x (-1000000000) 1000000000) % 1000003) a < 1000003 from H xs 17 (by omega) (by omega)
  intro xs
  induction xs with
  | nil => intro a h0 h1; exact ⟨h0, h1⟩
  | cons x r ih => intro a h0 h1; exact ih _ (Int.emod_nonneg _ (by omega)) (Int.emod_lt_of_pos _ (by omega))
theorem hashP_step (xs : List Int) (k : Nat) (h : k < xs.length) : hashP (xs.take (k + 1)) = (31 * hashP (xs.take k) + clampP xs[k] (-1000000000) 1000000000) % 1000003 := by
  unfold hashP
  rw [List.take_succ_eq_append_getElem h, List.foldl_append]; rfl
abbrev I64 : Int → Value := Value.int .i64
theorem infoInt : (Try.prog.info? 3).map (fun i => (i.zero, i.size, i.bytes)) = some (some (.int .i64 0), 1, 8) := by kernel_rfl

set_option maxHeartbeats 400000 in
theorem floorMod_any (a b : Int) (w : World) (hb : 1 ≤ b) (hb2 : b ≤ 4611686018427387904) (h0 : -4611686018427387904 ≤ a) (h1 : a ≤ 4611686018427387904) :
    Calls Try.prog 85 #[.int .i64 a, .int .i64 b] w fun e w' => e = .returned (.int .i64 (a % b)) ∧ w = w' := by
  obtain ⟨g0, g1, g2⟩ := fdivP_mul a b hb
  have G2 := Lib.hid g2
  clear g2
  go_enter Try.func85, Try.ntmps85
  go_wp2_with ((go_at_call 84; refine (floorDiv_any _ _ _ (by omega) (by omega)).mono ?_; rintro e w' ⟨rfl, rfl⟩))
  go_ret
  exact ⟨ret_int G2.out, rfl⟩



set_option maxHeartbeats 1000000 in
theorem eqIntS_same (A A' : Option Addr) (c c' : Nat) (xs : List Int) (w : World) (hR : Row I64 w w.heap.size A xs) (hR' : Row I64 w w.heap.size A' xs) (hl : xs.length ≤ 1152921504606846976) :
    Calls Try.prog 67 #[.slice A xs.length c, .slice A' xs.length c'] w fun e w' => e = .returned (.bool true) ∧ Below w.heap.size w w' := by
  go_enter Try.func67, Try.ntmps67
  go_wp2
  go_loopw [5] (fun i wr => ∃ k : Nat, k ≤ xs.length ∧ i = .int .i64 k ∧ Below w.heap.size w wr) (fun i _ => xs.length - (intOf i).toNat)
  case atStart => exact ⟨0, Nat.zero_le _, rfl, Below.refl _ _⟩
  case round =>
    obtain ⟨k, hk, rfl, hb⟩ := hrel
    by_cases hlt : k < xs.length
    · obtain ⟨b, o, rfl, hbl, hc⟩ := hR.at hlt
      obtain ⟨b', o', rfl, hbl', hc'⟩ := hR'.at hlt
      have hc := (hb.cell hbl).trans hc
      have hc' := (hb.cell hbl').trans hc'
      obtain ⟨x, hx⟩ : ∃ x, x = xs[k] := ⟨_, rfl⟩
      rw [← hx] at hc hc'
      have hlt' : (k : Int) < (xs.length : Int) := by omega
      have hge' : (0 : Int) ≤ (k : Int) := by omega
      have HB := Lib.hid hb
      clear hx hR hR' hb
      go_wp2
      go_quiet (fail)
      go_wp2
      go_roundw
      case rel => exact ⟨k + 1, by omega, by go_num, below_drewN HB.out _⟩
      case measure => simp [intOf]; omega
    · have HB := Lib.hid hb
      clear hb hR hR'
      go_wp2
      go_ret
      exact ⟨rfl, HB.out⟩

def half (xs : List Int) (k : Nat) : List Int := xs.take k ++ List.replicate (xs.length - k) 0
theorem half_zero (xs : List Int) : half xs 0 = List.replicate xs.length 0 := by simp [half]
theorem half_all (xs : List Int) : half xs xs.length = xs := by simp [half]
theorem half_len (xs : List Int) (k : Nat) (h : k ≤ xs.length) : (half xs k).length = xs.length := by simp [half]; omega
theorem half_step (xs : List Int) (k : Nat) (h : k < xs.length) : (half xs k).set k xs[k] = half xs (k + 1) := by
  unfold half
  rw [List.take_succ_eq_append_getElem h, List.set_append_right _ _ (by simp; omega)]
  have e : xs.length - k = (xs.length - (k + 1)) + 1 := by omega
  rw [e, List.replicate_succ]
  simp only [List.length_take, Nat.min_eq_left (Nat.le_of_lt h), Nat.sub_self, List.set_cons_zero, List.append_assoc, List.cons_append, List.nil_append]
set_option maxHeartbeats 1000000 in
theorem toIntS_any (A : Option Addr) (c : Nat) (xs : List Int) (w : World) (hR : Row I64 w w.heap.size A xs) (hl : xs.length ≤ 17592186044416) :
    Calls Try.prog 65 #[.slice A xs.length c] w fun e w' => e = .returned (.slice (some ⟨w.heap.size, 0, none⟩) xs.length xs.length) ∧ Below w.heap.size w w' ∧ Row I64 w' w'.heap.size (some ⟨w.heap.size, 0, none⟩) xs := by
  obtain ⟨i0, hi, hz0, hz1, hz2⟩ := info_parts infoInt
  go_enter Try.func65, Try.ntmps65
  go_wp2_with (at_make; refine wpList_make_full _ rfl _ _ 23 rfl w.heap.size 3 i0 (.int .i64 0) 1 Try.underlying23 hi hz0 hz1 .i64 .i64 _ _ xs.length rfl rfl rfl rfl (by rw [hz2]; omega) (by unfold maxLen; omega) (by omega) ?_)
  intro w1 hown hgrow
  have hb0 : Below w.heap.size w w1 := (Below.refl _ _).grown hgrow (Nat.le_refl _) (fun k h => by cases h)
  have hown : w1.ownsRow w.heap.size 3 1 (.slice (some ⟨w.heap.size, 0, none⟩) xs.length xs.length) xs.length ((half xs 0).map I64) := by
    rw [half_zero, List.map_replicate, ← made_one]; exact hown
  clear hgrow
  have HO := Lib.hid hown
  have HB0 := Lib.hid hb0
  clear hown hb0
  go_wp2
  go_loopw [4] (fun i wr => ∃ k : Nat, k ≤ xs.length ∧ i = .int .i64 k ∧ wr.ownsRow w.heap.size 3 1 (.slice (some ⟨w.heap.size, 0, none⟩) xs.length xs.length) xs.length ((half xs k).map I64) ∧ Below w.heap.size w wr) (fun i _ => xs.length - (intOf i).toNat)
  case atStart => exact ⟨0, Nat.zero_le _, rfl, HO.out, HB0.out⟩
  case round =>
    obtain ⟨k, hk, rfl, hown, hb⟩ := hrel
    clear HO HB0
    by_cases hlt : k < xs.length
    · obtain ⟨b, o, rfl, hbl, hc⟩ := hR.at hlt
      have hc := (hb.cell hbl).trans hc
      have hd := hown.cellAt k (by omega)
      have hf := hown.frozenAt k
      have hlh : k < (half xs k).length := by rw [half_len _ _ hk]; exact hlt
      rw [List.getElem?_map, List.getElem?_eq_getElem hlh, Option.map_some] at hd
      obtain ⟨y, hy⟩ : ∃ y, y = (half xs k)[k] := ⟨_, rfl⟩
      rw [← hy] at hd
      have hs := (hown.stored k (I64 xs[k])).1
      rw [← List.map_set, half_step _ _ hlt] at hs
      have hs' := hb.setCell (p := ⟨w.heap.size, k, none⟩) (Nat.le_refl _) (I64 xs[k])
      obtain ⟨x, hx⟩ : ∃ x, x = xs[k] := ⟨_, rfl⟩
      rw [← hx] at hc hs hs'
      have HS := Lib.hid hs
      have HS' := Lib.hid hs'
      clear hx hy hR hb hown hs hs' hlh
      go_wp2
      go_roundw
      case rel => exact ⟨k + 1, by omega, by go_num, HS.out, HS'.out⟩
      case measure => simp [intOf]; omega
    · have e : k = xs.length := by omega
      have hown : wr.ownsRow w.heap.size 3 1 (.slice (some ⟨w.heap.size, 0, none⟩) xs.length xs.length) xs.length (xs.map I64) := by rw [e, half_all] at hown; exact hown
      have HO := Lib.hid hown
      have HB := Lib.hid hb
      clear e hown hb hR
      go_wp2
      go_ret
      exact ⟨rfl, HB.out, Row.of_own HO.out⟩


end Go.Proofs.Ytaelhbbfddcabaa
