/- Contracts of the laws own helpers on slices of patches. -/
import Derived.Test.YtlbamopmindbmaaProg
import Derived.Test.YtlbamopmindbmaaInts
import Derived.Test.YtlbamopmindbmaaVbox
import Derived.Test.YtlbamopmindbmaaVec
import Derived.Test.YtlbamopmindbmaaHeld
import Derived.Test.YtlbamopmindbmaaMem
import Derived.Test.YtlbamopmindbmaaRowC
import Derived.Test.YtlbamopmindbmaaIntS
import Derived.Test.YtlbamopmindbmaaVecS
import Derived.Test.YtlbamopmindbmaaSS
import Derived.Test.YtlbamopmindbmaaMkA
import Derived.Test.YtlbamopmindbmaaMkB
import Derived.Test.YtlbamopmindbmaaMkC
import Derived.Test.YtlbamopmindbmaaMkD
import Derived.Test.YtlbamopmindbmaaMF
import Derived.Test.YtlbamopmindbmaaMG
import Derived.Test.YtlbamopmindbmaaMH
import Derived.Test.YtlbamopmindbmaaMM
import Derived.Test.YtlbamopmindbmaaMN
import Derived.Test.YtlbamopmindbmaaMV
import Derived.Test.YtlbamopmindbmaaMW
import Derived.Test.YtlbamopmindbmaaMVF
import Derived.Test.YtlbamopmindbmaaMNb
import Derived.Test.YtlbamopmindbmaaMFw
import Derived.Test.YtlbamopmindbmaaArr
import Derived.Test.YtlbamopmindbmaaTr
import Derived.Test.YtlbamopmindbmaaPat
import Derived.Test.YtlbamopmindbmaaPTo
import Derived.WalkKit
import Derived.WalkSpells
import Derived.WalkLawsBesides
import Derived.Lib.Hide
import Derived.Deep.RegionHeld3
import Derived.Deep.QuietTactic
import Derived.BigQuiet
import Derived.Handy
import Derived.Deep.DeepCutAuto
import Derived.OwnWalk
namespace Go.Proofs.Ytlbamopmindbmaa
open Go.RowKit


theorem pgc_at {w : World} {b o : Nat} {x0 y0 z0 x1 y1 z1 x2 y2 z2 x3 y3 z3 : Int} (h : ∀ j u, (pgc ((x0, y0, z0), (x1, y1, z1), (x2, y2, z2), (x3, y3, z3)))[j]? = some u → w.cell? ⟨b, o + j, none⟩ = some u) :
    w.cell? ⟨b, o, none⟩ = some (.int .i64 x0) ∧ w.cell? ⟨b, o + 1, none⟩ = some (.int .i64 y0) ∧ w.cell? ⟨b, o + 2, none⟩ = some (.int .i64 z0) ∧ w.cell? ⟨b, o + 3, none⟩ = some (.int .i64 x1) ∧ w.cell? ⟨b, o + 4, none⟩ = some (.int .i64 y1) ∧ w.cell? ⟨b, o + 5, none⟩ = some (.int .i64 z1) ∧ w.cell? ⟨b, o + 6, none⟩ = some (.int .i64 x2) ∧ w.cell? ⟨b, o + 7, none⟩ = some (.int .i64 y2) ∧ w.cell? ⟨b, o + 8, none⟩ = some (.int .i64 z2) ∧ w.cell? ⟨b, o + 9, none⟩ = some (.int .i64 x3) ∧ w.cell? ⟨b, o + 10, none⟩ = some (.int .i64 y3) ∧ w.cell? ⟨b, o + 11, none⟩ = some (.int .i64 z3) := ⟨h 0 _ rfl, h 1 _ rfl, h 2 _ rfl, h 3 _ rfl, h 4 _ rfl, h 5 _ rfl, h 6 _ rfl, h 7 _ rfl, h 8 _ rfl, h 9 _ rfl, h 10 _ rfl, h 11 _ rfl⟩
theorem patL_len (vs : List V3) (fs : List (List Int)) : (patL vs fs).length ≤ 1048576 := by
  unfold patL
  split
  · rename_i h
    have := (ok_len h).2
    rw [List.length_map]
    omega
  · simp
set_option maxRecDepth 100000 in
set_option maxHeartbeats 8000000 in
theorem eqPatchS_same (A A' : Option Addr) (c c' : Nat) (xs : List Q4) (w : World) (hR : RowC 12 pgc w w.heap.size A xs) (hR' : RowC 12 pgc w w.heap.size A' xs) (hl : xs.length ≤ 1048576) :
    Calls Try.prog 40 #[.slice A xs.length c, .slice A' xs.length c'] w fun e w' => e = .returned (.bool true) ∧ Below w.heap.size w w' := by
  have HR := Lib.hid hR
  have HR' := Lib.hid hR'
  clear hR hR'
  go_enter Try.func40, Try.ntmps40
  go_wp2
  go_loopw [5] (fun i wr => ∃ k : Nat, k ≤ xs.length ∧ i = .int .i64 k ∧ Below w.heap.size w wr) (fun i _ => xs.length - (intOf i).toNat)
  case atStart => exact ⟨0, Nat.zero_le _, rfl, Below.refl _ _⟩
  case round =>
    obtain ⟨k, hk, rfl, hb⟩ := hrel
    have HB := Lib.hid hb
    clear hb
    by_cases hlt : k < xs.length
    · obtain ⟨b, o, rfl, hbl, hc⟩ := HR.out.at hlt
      obtain ⟨b', o', rfl, hbl', hc'⟩ := HR'.out.at hlt
      obtain ⟨p, hp⟩ : ∃ p, p = xs[k] := ⟨_, rfl⟩
      rw [← hp] at hc hc'
      obtain ⟨⟨x0, y0, z0⟩, ⟨x1, y1, z1⟩, ⟨x2, y2, z2⟩, ⟨x3, y3, z3⟩⟩ := p
      have HK := Lib.hid (pgc_at hc)
      have HK' := Lib.hid (pgc_at hc')
      have hlI : (k : Int) < (xs.length : Int) := by omega
      have h0I : (0 : Int) ≤ (k : Int) := by omega
      have HC : ∀ W, Held w W [] → ((W.cell? ⟨b, o + k * 12, none⟩ = some (.int .i64 x0) ∧ W.cell? ⟨b, o + k * 12 + 1, none⟩ = some (.int .i64 y0) ∧ W.cell? ⟨b, o + k * 12 + 2, none⟩ = some (.int .i64 z0) ∧ W.cell? ⟨b, o + k * 12 + 3, none⟩ = some (.int .i64 x1) ∧ W.cell? ⟨b, o + k * 12 + 4, none⟩ = some (.int .i64 y1) ∧ W.cell? ⟨b, o + k * 12 + 5, none⟩ = some (.int .i64 z1) ∧ W.cell? ⟨b, o + k * 12 + 6, none⟩ = some (.int .i64 x2) ∧ W.cell? ⟨b, o + k * 12 + 7, none⟩ = some (.int .i64 y2) ∧ W.cell? ⟨b, o + k * 12 + 8, none⟩ = some (.int .i64 z2) ∧ W.cell? ⟨b, o + k * 12 + 9, none⟩ = some (.int .i64 x3) ∧ W.cell? ⟨b, o + k * 12 + 10, none⟩ = some (.int .i64 y3) ∧ W.cell? ⟨b, o + k * 12 + 11, none⟩ = some (.int .i64 z3)) ∧ (W.cell? ⟨b', o' + k * 12, none⟩ = some (.int .i64 x0) ∧ W.cell? ⟨b', o' + k * 12 + 1, none⟩ = some (.int .i64 y0) ∧ W.cell? ⟨b', o' + k * 12 + 2, none⟩ = some (.int .i64 z0) ∧ W.cell? ⟨b', o' + k * 12 + 3, none⟩ = some (.int .i64 x1) ∧ W.cell? ⟨b', o' + k * 12 + 4, none⟩ = some (.int .i64 y1) ∧ W.cell? ⟨b', o' + k * 12 + 5, none⟩ = some (.int .i64 z1) ∧ W.cell? ⟨b', o' + k * 12 + 6, none⟩ = some (.int .i64 x2) ∧ W.cell? ⟨b', o' + k * 12 + 7, none⟩ = some (.int .i64 y2) ∧ W.cell? ⟨b', o' + k * 12 + 8, none⟩ = some (.int .i64 z2) ∧ W.cell? ⟨b', o' + k * 12 + 9, none⟩ = some (.int .i64 x3) ∧ W.cell? ⟨b', o' + k * 12 + 10, none⟩ = some (.int .i64 y3) ∧ W.cell? ⟨b', o' + k * 12 + 11, none⟩ = some (.int .i64 z3))) := fun W h => ⟨⟨(h.below.cell (p := ⟨b, o + k * 12, none⟩) hbl).trans HK.out.1, (h.below.cell (p := ⟨b, o + k * 12 + 1, none⟩) hbl).trans HK.out.2.1, (h.below.cell (p := ⟨b, o + k * 12 + 2, none⟩) hbl).trans HK.out.2.2.1, (h.below.cell (p := ⟨b, o + k * 12 + 3, none⟩) hbl).trans HK.out.2.2.2.1, (h.below.cell (p := ⟨b, o + k * 12 + 4, none⟩) hbl).trans HK.out.2.2.2.2.1, (h.below.cell (p := ⟨b, o + k * 12 + 5, none⟩) hbl).trans HK.out.2.2.2.2.2.1, (h.below.cell (p := ⟨b, o + k * 12 + 6, none⟩) hbl).trans HK.out.2.2.2.2.2.2.1, (h.below.cell (p := ⟨b, o + k * 12 + 7, none⟩) hbl).trans HK.out.2.2.2.2.2.2.2.1, (h.below.cell (p := ⟨b, o + k * 12 + 8, none⟩) hbl).trans HK.out.2.2.2.2.2.2.2.2.1, (h.below.cell (p := ⟨b, o + k * 12 + 9, none⟩) hbl).trans HK.out.2.2.2.2.2.2.2.2.2.1, (h.below.cell (p := ⟨b, o + k * 12 + 10, none⟩) hbl).trans HK.out.2.2.2.2.2.2.2.2.2.2.1, (h.below.cell (p := ⟨b, o + k * 12 + 11, none⟩) hbl).trans HK.out.2.2.2.2.2.2.2.2.2.2.2⟩, (h.below.cell (p := ⟨b', o' + k * 12, none⟩) hbl').trans HK'.out.1, (h.below.cell (p := ⟨b', o' + k * 12 + 1, none⟩) hbl').trans HK'.out.2.1, (h.below.cell (p := ⟨b', o' + k * 12 + 2, none⟩) hbl').trans HK'.out.2.2.1, (h.below.cell (p := ⟨b', o' + k * 12 + 3, none⟩) hbl').trans HK'.out.2.2.2.1, (h.below.cell (p := ⟨b', o' + k * 12 + 4, none⟩) hbl').trans HK'.out.2.2.2.2.1, (h.below.cell (p := ⟨b', o' + k * 12 + 5, none⟩) hbl').trans HK'.out.2.2.2.2.2.1, (h.below.cell (p := ⟨b', o' + k * 12 + 6, none⟩) hbl').trans HK'.out.2.2.2.2.2.2.1, (h.below.cell (p := ⟨b', o' + k * 12 + 7, none⟩) hbl').trans HK'.out.2.2.2.2.2.2.2.1, (h.below.cell (p := ⟨b', o' + k * 12 + 8, none⟩) hbl').trans HK'.out.2.2.2.2.2.2.2.2.1, (h.below.cell (p := ⟨b', o' + k * 12 + 9, none⟩) hbl').trans HK'.out.2.2.2.2.2.2.2.2.2.1, (h.below.cell (p := ⟨b', o' + k * 12 + 10, none⟩) hbl').trans HK'.out.2.2.2.2.2.2.2.2.2.2.1, (h.below.cell (p := ⟨b', o' + k * 12 + 11, none⟩) hbl').trans HK'.out.2.2.2.2.2.2.2.2.2.2.2⟩
      have HQ : Held w wr [] := ⟨HB.out, fun i k vs h => by simp at h⟩
      clear hp hc hc'
      go_wp2_with fail
      go_region_held3 (fun W => (W.cell? ⟨b, o + k * 12, none⟩ = some (.int .i64 x0) ∧ W.cell? ⟨b, o + k * 12 + 1, none⟩ = some (.int .i64 y0) ∧ W.cell? ⟨b, o + k * 12 + 2, none⟩ = some (.int .i64 z0) ∧ W.cell? ⟨b, o + k * 12 + 3, none⟩ = some (.int .i64 x1) ∧ W.cell? ⟨b, o + k * 12 + 4, none⟩ = some (.int .i64 y1) ∧ W.cell? ⟨b, o + k * 12 + 5, none⟩ = some (.int .i64 z1) ∧ W.cell? ⟨b, o + k * 12 + 6, none⟩ = some (.int .i64 x2) ∧ W.cell? ⟨b, o + k * 12 + 7, none⟩ = some (.int .i64 y2) ∧ W.cell? ⟨b, o + k * 12 + 8, none⟩ = some (.int .i64 z2) ∧ W.cell? ⟨b, o + k * 12 + 9, none⟩ = some (.int .i64 x3) ∧ W.cell? ⟨b, o + k * 12 + 10, none⟩ = some (.int .i64 y3) ∧ W.cell? ⟨b, o + k * 12 + 11, none⟩ = some (.int .i64 z3)) ∧ (W.cell? ⟨b', o' + k * 12, none⟩ = some (.int .i64 x0) ∧ W.cell? ⟨b', o' + k * 12 + 1, none⟩ = some (.int .i64 y0) ∧ W.cell? ⟨b', o' + k * 12 + 2, none⟩ = some (.int .i64 z0) ∧ W.cell? ⟨b', o' + k * 12 + 3, none⟩ = some (.int .i64 x1) ∧ W.cell? ⟨b', o' + k * 12 + 4, none⟩ = some (.int .i64 y1) ∧ W.cell? ⟨b', o' + k * 12 + 5, none⟩ = some (.int .i64 z1) ∧ W.cell? ⟨b', o' + k * 12 + 6, none⟩ = some (.int .i64 x2) ∧ W.cell? ⟨b', o' + k * 12 + 7, none⟩ = some (.int .i64 y2) ∧ W.cell? ⟨b', o' + k * 12 + 8, none⟩ = some (.int .i64 z2) ∧ W.cell? ⟨b', o' + k * 12 + 9, none⟩ = some (.int .i64 x3) ∧ W.cell? ⟨b', o' + k * 12 + 10, none⟩ = some (.int .i64 y3) ∧ W.cell? ⟨b', o' + k * 12 + 11, none⟩ = some (.int .i64 z3)))
        (first | (with_reducible exact HC _ HQ) | (with_reducible exact HC _ HQ.drew))
        (first | (go_at_call 64; refine (eqPatch_same _ _ _ _ _ _ _ _ _ _ _ _ _).mono ?_; rintro e w7 ⟨rfl, hb7⟩; (first | (have HQ := HQ.later hb7) | (have HQ := HQ.drew.later hb7))))
      all_goals
        have HB7 := Lib.hid HQ.below
        clear HQ HC
        go_wp2_with fail
        go_roundw
        case rel => exact ⟨k + 1, by omega, by go_num, HB7.out⟩
        case measure => simp [intOf]; omega
    · have e : k = xs.length := by omega
      clear e
      go_wp2
      go_ret
      exact ⟨rfl, HB.out⟩

set_option maxHeartbeats 2000000 in
theorem markPatchS_any (A : Option Addr) (n c : Nat) (w : World) (hl : n ≤ 1048576) : Calls Try.prog 41 #[.slice A n c, .int .i64 1] w fun e w' => e = .returned (.int .i64 1) ∧ w = w' := by
  go_enter Try.func41, Try.ntmps41
  go_wp2
  go_loop [5] (fun i => ∃ k : Nat, k ≤ n ∧ i = .int .i64 k) (fun i => n - (intOf i).toNat)
  case atStart => exact ⟨0, Nat.zero_le _, rfl⟩
  case round =>
    obtain ⟨k, hk, rfl⟩ := hrel
    by_cases hlt : k < n
    · go_wp2
      go_round
      case rel => exact ⟨k + 1, by omega, by go_num⟩
      case measure => simp [intOf]; omega
    · go_wp2
      go_ret
      exact ⟨rfl, rfl⟩

set_option maxHeartbeats 2000000 in
theorem heldPatchS_any (A : Option Addr) (n c : Nat) (w : World) (hl : n ≤ 1048576) : Calls Try.prog 42 #[.slice A n c, .int .i64 1] w fun e w' => e = .returned (.int .i64 1) ∧ w = w' := by
  go_enter Try.func42, Try.ntmps42
  go_wp2
  go_loop [5] (fun i => ∃ k : Nat, k ≤ n ∧ i = .int .i64 k) (fun i => n - (intOf i).toNat)
  case atStart => exact ⟨0, Nat.zero_le _, rfl⟩
  case round =>
    obtain ⟨k, hk, rfl⟩ := hrel
    by_cases hlt : k < n
    · go_wp2
      go_round
      case rel => exact ⟨k + 1, by omega, by go_num⟩
      case measure => simp [intOf]; omega
    · go_wp2
      go_ret
      exact ⟨rfl, rfl⟩


end Go.Proofs.Ytlbamopmindbmaa
