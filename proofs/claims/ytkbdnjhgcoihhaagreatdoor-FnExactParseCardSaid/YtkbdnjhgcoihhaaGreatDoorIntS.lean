/- Contracts over slices of integers: HashInts, and the laws' own helpers toIntS, eqIntS. -/
import Derived.Test.YtkbdnjhgcoihhaaGreatDoorProg
import Derived.Test.YtkbdnjhgcoihhaaGreatDoorInts
import Derived.Test.YtkbdnjhgcoihhaaGreatDoorMem
import Derived.WalkKit
import Derived.WalkSpells
import Derived.WalkLawsBesides
import Derived.Lib.Hide
import Derived.BigQuiet
import Derived.Deep.QuietTactic
namespace Go.Proofs.YtkbdnjhgcoihhaaGreatDoor
open Go.RowKit

def hashP (xs : List Int) : Int := xs.foldl (fun h x => (31 * h + clampP x (-1000000000) 1000000000) % 1000003) 17
theorem hashP_bd (xs : List Int) : 0 ≤ hashP xs ∧ hashP xs < 1000003 := by
  unfold hashP
  suffices H : ∀ (xs : List Int) (a : Int), 0 ≤ a → a < 1000003 → 0 ≤ xs.foldl (fun h x => (31 * h + clampP x (-1000000000) 1000000000) % 1000003) a ∧ xs.foldl (fun h x => (31 * h + clampP x (-1000000000) 1000000000) % 1000003) a < 1000003 from H xs 17 (by omega) (by omega)
  intro xs
  induction xs with
  | nil => intro a h0 h1; exact ⟨h0, h1⟩
  | cons x r ih => intro a h0 h1; exact ih _ (Int.emod_nonneg _ (by omega)) (Int.emod_lt_of_pos _ (by omega))
theorem hashP_step (xs : List Int) (k : Nat) (h : k < xs.length) : hashP (xs.take (k + 1)) = (31 * hashP (xs.take k) + clampP xs[k] (-1000000000) 1000000000) % 1000003 := by
  unfold hashP
  rw [List.take_succ_eq_append_getElem h, List.foldl_append]; rfl
abbrev I64 : Int → Value := Value.int .i64
theorem infoInt : (Tryz.prog.info? 3).map (fun i => (i.zero, i.size, i.bytes)) = some (some (.int .i64 0), 1, 8) := by kernel_rfl




set_option maxHeartbeats 1000000 in
theorem eqIntS_same (A A' : Option Addr) (c c' : Nat) (xs : List Int) (w : World) (hR : Row I64 w w.heap.size A xs) (hR' : Row I64 w w.heap.size A' xs) (hl : xs.length ≤ 1152921504606846976) :
    Calls Tryz.prog 52 #[.slice A xs.length c, .slice A' xs.length c'] w fun e w' => e = .returned (.bool true) ∧ Below w.heap.size w w' := by
  go_enter Tryz.func52, Tryz.ntmps52
  go_wp2
  go_loopw [5] (fun i wr => ∃ k : Nat, k ≤ xs.length ∧ i = .int .i64 k ∧ Below w.heap.size w wr) (fun i _ => xs.length - (intOf i).toNat)
  case atStart => exact ⟨0, Nat.zero_le _, rfl, Below.refl _ _⟩
  case round =>
    obtain ⟨k, hk, rfl, hb⟩ := hrel
    by_cases hlt : k < xs.length
    · obtain ⟨b, o, rfl, hbl, hc⟩ := hR.at hlt
      obtain ⟨b', o', rfl, hbl', hc'⟩ := hR'.at hlt
      have hc := (hb.cell hbl).trans hc
      have hc' := (hb.cell hbl').trans hc'
      obtain ⟨x, hx⟩ : ∃ x, x = xs[k] := ⟨_, rfl⟩
      rw [← hx] at hc hc'
      have hlt' : (k : Int) < (xs.length : Int) := by omega
      have hge' : (0 : Int) ≤ (k : Int) := by omega
      have HB := Lib.hid hb
      clear hx hR hR' hb
      go_wp2
      go_quiet (fail)
      go_wp2
      go_roundw
      case rel => exact ⟨k + 1, by omega, by go_num, below_drewN HB.out _⟩
      case measure => simp [intOf]; omega
    · have HB := Lib.hid hb
      clear hb hR hR'
      go_wp2
      go_ret
      exact ⟨rfl, HB.out⟩



end Go.Proofs.YtkbdnjhgcoihhaaGreatDoor
