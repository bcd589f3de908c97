/- Contracts of the laws own helpers on patches. -/
import Derived.Test.YtbgpcgimmiinbaaProg
import Derived.Test.YtbgpcgimmiinbaaInts
import Derived.Test.YtbgpcgimmiinbaaVbox
import Derived.Test.YtbgpcgimmiinbaaVec
import Derived.Test.YtbgpcgimmiinbaaHeld
import Derived.Test.YtbgpcgimmiinbaaArr
import Derived.Test.YtbgpcgimmiinbaaTr
import Derived.Test.YtbgpcgimmiinbaaMem
import Derived.Test.YtbgpcgimmiinbaaFlat
import Derived.Test.YtbgpcgimmiinbaaRowC
import Derived.Test.YtbgpcgimmiinbaaPat
import Derived.WalkKit
import Derived.WalkSpells
import Derived.WalkLawsBesides
import Derived.Lib.Hide
import Derived.Deep.RegionHeld3
import Derived.Deep.QuietTactic
import Derived.BigQuiet
import Derived.Handy
import Derived.Deep.DeepCutAuto
namespace Go.Proofs.Ytbgpcgimmiinbaa
open Go.RowKit

set_option maxHeartbeats 4000000 in
theorem toVecA4_any (a0 a1 a2 a3 a4 a5 a6 a7 a8 x y z : Int) (w : World) :
    Calls Try.prog 61 #[tr a0 a1 a2 a3 a4 a5 a6 a7 a8 x y z] w (TrOut a0 a1 a2 a3 a4 a5 a6 a7 a8 x y z w) := by
  have HT : Held w (((w.alloc (.cells #[.int .i64 a0, .int .i64 a1, .int .i64 a2, .int .i64 a3, .int .i64 a4, .int .i64 a5, .int .i64 a6, .int .i64 a7, .int .i64 a8, .int .i64 x, .int .i64 y, .int .i64 z] 61)).alloc (.cells #[.int .i64 0, .int .i64 0, .int .i64 0, .int .i64 0, .int .i64 0, .int .i64 0, .int .i64 0, .int .i64 0, .int .i64 0, .int .i64 0, .int .i64 0, .int .i64 0] 38)).alloc (.cells #[.int .i64 0, .int .i64 0, .int .i64 0, .int .i64 0, .int .i64 0, .int .i64 0, .int .i64 0, .int .i64 0, .int .i64 0, .int .i64 0, .int .i64 0, .int .i64 0] 38)) [(w.heap.size + 2, [.int .i64 0, .int .i64 0, .int .i64 0, .int .i64 0, .int .i64 0, .int .i64 0, .int .i64 0, .int .i64 0, .int .i64 0, .int .i64 0, .int .i64 0, .int .i64 0]), (w.heap.size + 1, [.int .i64 0, .int .i64 0, .int .i64 0, .int .i64 0, .int .i64 0, .int .i64 0, .int .i64 0, .int .i64 0, .int .i64 0, .int .i64 0, .int .i64 0, .int .i64 0]), (w.heap.size, [.int .i64 a0, .int .i64 a1, .int .i64 a2, .int .i64 a3, .int .i64 a4, .int .i64 a5, .int .i64 a6, .int .i64 a7, .int .i64 a8, .int .i64 x, .int .i64 y, .int .i64 z])] := by
    have h := (((Held.nil w).new #[.int .i64 a0, .int .i64 a1, .int .i64 a2, .int .i64 a3, .int .i64 a4, .int .i64 a5, .int .i64 a6, .int .i64 a7, .int .i64 a8, .int .i64 x, .int .i64 y, .int .i64 z] 61).new #[.int .i64 0, .int .i64 0, .int .i64 0, .int .i64 0, .int .i64 0, .int .i64 0, .int .i64 0, .int .i64 0, .int .i64 0, .int .i64 0, .int .i64 0, .int .i64 0] 38).new #[.int .i64 0, .int .i64 0, .int .i64 0, .int .i64 0, .int .i64 0, .int .i64 0, .int .i64 0, .int .i64 0, .int .i64 0, .int .i64 0, .int .i64 0, .int .i64 0] 38
    simpa only [World.size_alloc] using h
  obtain ⟨xs, hxs⟩ : ∃ xs : List V3, xs = [(a0, a1, a2), (a3, a4, a5), (a6, a7, a8), (x, y, z)] := ⟨_, rfl⟩
  have hlen : xs.length = 4 := by rw [hxs]; rfl
  have HT : Held w (((w.alloc (.cells #[.int .i64 a0, .int .i64 a1, .int .i64 a2, .int .i64 a3, .int .i64 a4, .int .i64 a5, .int .i64 a6, .int .i64 a7, .int .i64 a8, .int .i64 x, .int .i64 y, .int .i64 z] 61)).alloc (.cells #[.int .i64 0, .int .i64 0, .int .i64 0, .int .i64 0, .int .i64 0, .int .i64 0, .int .i64 0, .int .i64 0, .int .i64 0, .int .i64 0, .int .i64 0, .int .i64 0] 38)).alloc (.cells #[.int .i64 0, .int .i64 0, .int .i64 0, .int .i64 0, .int .i64 0, .int .i64 0, .int .i64 0, .int .i64 0, .int .i64 0, .int .i64 0, .int .i64 0, .int .i64 0] 38)) [(w.heap.size + 2, (partA (List.replicate 4 ((0, 0, 0) : V3)) xs 0).flatMap vg), (w.heap.size + 1, [.int .i64 0, .int .i64 0, .int .i64 0, .int .i64 0, .int .i64 0, .int .i64 0, .int .i64 0, .int .i64 0, .int .i64 0, .int .i64 0, .int .i64 0, .int .i64 0]), (w.heap.size, xs.flatMap vg)] := by rw [hxs]; exact HT
  have HX := Lib.hid hxs
  clear hxs
  go_enter Try.func61, Try.ntmps61
  go_wp2
  go_loopw [4] (fun i wr => ∃ k : Nat, k ≤ 4 ∧ i = .int .i64 k ∧ Held w wr [(w.heap.size + 2, (partA (List.replicate 4 ((0, 0, 0) : V3)) xs k).flatMap vg), (w.heap.size + 1, [.int .i64 0, .int .i64 0, .int .i64 0, .int .i64 0, .int .i64 0, .int .i64 0, .int .i64 0, .int .i64 0, .int .i64 0, .int .i64 0, .int .i64 0, .int .i64 0]), (w.heap.size, xs.flatMap vg)]) (fun i _ => 4 - (intOf i).toNat)
  case atStart => exact ⟨0, Nat.zero_le _, rfl, HT⟩
  case round =>
    clear HT
    obtain ⟨k, hk, rfl, HT⟩ := hrel
    by_cases hlt : k < 4
    · have hv := List.getElem?_eq_getElem (show k < xs.length by omega)
      have he := partA_at (xs := List.replicate 4 ((0, 0, 0) : V3)) (ys := xs) (by simp [hlen]) (k := k) (by simp; omega)
      have hs := partA_step (xs := List.replicate 4 ((0, 0, 0) : V3)) (ys := xs) (by simp [hlen]) (k := k) (by omega)
      generalize xs[k]'(by omega) = v at hv hs
      generalize (List.replicate 4 ((0, 0, 0) : V3))[k]'(by simp; omega) = u at he
      obtain ⟨c0, c1, c2⟩ := (HT.box 2).v3 hv
      have hlt' : (k : Int) < 4 := by omega
      have hge' : (0 : Int) ≤ (k : Int) := by omega

      have HE := Lib.hid he
      have HS := Lib.hid hs
      clear hv he hs
      go_wp2_with fail
      refine (toVec_any _ _ _ _).mono ?_
      rintro e w1 ⟨rfl, hb1⟩
      have HT := HT.later hb1
      clear hb1 c0 c1 c2
      obtain ⟨d0, d1, d2⟩ := (HT.box 0).v3 HE.out
      obtain ⟨f0, f1, f2⟩ := (HT.box 0).v3f HE.out
      have HP := HT.putV (by omega) (by simp <;> omega) k v
      rw [HS.out] at HP
      have HH := Lib.hid HP
      clear HT HP HE HS
      go_wp2
      go_roundw
      case rel => exact ⟨k + 1, by omega, by go_num, HH.out⟩
      case measure => simp [intOf]; omega
    · have e : k = 4 := by omega
      subst e
      have HT : Held w wr [(w.heap.size + 2, [.int .i64 a0, .int .i64 a1, .int .i64 a2, .int .i64 a3, .int .i64 a4, .int .i64 a5, .int .i64 a6, .int .i64 a7, .int .i64 a8, .int .i64 x, .int .i64 y, .int .i64 z]), (w.heap.size + 1, [.int .i64 0, .int .i64 0, .int .i64 0, .int .i64 0, .int .i64 0, .int .i64 0, .int .i64 0, .int .i64 0, .int .i64 0, .int .i64 0, .int .i64 0, .int .i64 0])] := by
        have h := HT.pick (cs := [(w.heap.size + 2, (partA (List.replicate 4 ((0, 0, 0) : V3)) xs 4).flatMap vg), (w.heap.size + 1, [.int .i64 0, .int .i64 0, .int .i64 0, .int .i64 0, .int .i64 0, .int .i64 0, .int .i64 0, .int .i64 0, .int .i64 0, .int .i64 0, .int .i64 0, .int .i64 0])]) (by simp)
        rw [HX.out] at h
        exact h
      have c0 := (HT.box 0).c 0
      have c1 := (HT.box 0).c 1
      have c2 := (HT.box 0).c 2
      have c3 := (HT.box 0).c 3
      have c4 := (HT.box 0).c 4
      have c5 := (HT.box 0).c 5
      have c6 := (HT.box 0).c 6
      have c7 := (HT.box 0).c 7
      have c8 := (HT.box 0).c 8
      have c9 := (HT.box 0).c 9
      have c10 := (HT.box 0).c 10
      have c11 := (HT.box 0).c 11
      have r0 := (HT.box 1).c 0
      have r1 := (HT.box 1).c 1
      have r2 := (HT.box 1).c 2
      have r3 := (HT.box 1).c 3
      have r4 := (HT.box 1).c 4
      have r5 := (HT.box 1).c 5
      have r6 := (HT.box 1).c 6
      have r7 := (HT.box 1).c 7
      have r8 := (HT.box 1).c 8
      have r9 := (HT.box 1).c 9
      have r10 := (HT.box 1).c 10
      have r11 := (HT.box 1).c 11
      have g0 := (HT.box 1).f 0
      have g1 := (HT.box 1).f 1
      have g2 := (HT.box 1).f 2
      have g3 := (HT.box 1).f 3
      have g4 := (HT.box 1).f 4
      have g5 := (HT.box 1).f 5
      have g6 := (HT.box 1).f 6
      have g7 := (HT.box 1).f 7
      have g8 := (HT.box 1).f 8
      have g9 := (HT.box 1).f 9
      have g10 := (HT.box 1).f 10
      have g11 := (HT.box 1).f 11
      have HW := HT.below
      clear HT
      clear hlt hk hlen HX
      go_wp2_with fail
      exact bodyPost_ret (v := tr a0 a1 a2 a3 a4 a5 a6 a7 a8 x y z) (by simp [results, Try.results61, go_sem, r0, r1, r2, r3, r4, r5, r6, r7, r8, r9, r10, r11]) rfl ⟨rfl, bset_far12 HW (by omega)⟩

set_option maxHeartbeats 4000000 in
theorem eqVecA4_same (a0 a1 a2 a3 a4 a5 a6 a7 a8 x y z : Int) (w : World) :
    Calls Try.prog 62 #[tr a0 a1 a2 a3 a4 a5 a6 a7 a8 x y z, tr a0 a1 a2 a3 a4 a5 a6 a7 a8 x y z] w (BOut true w) := by
  have HT : Held w ((w.alloc (.cells #[.int .i64 a0, .int .i64 a1, .int .i64 a2, .int .i64 a3, .int .i64 a4, .int .i64 a5, .int .i64 a6, .int .i64 a7, .int .i64 a8, .int .i64 x, .int .i64 y, .int .i64 z] 38)).alloc (.cells #[.int .i64 a0, .int .i64 a1, .int .i64 a2, .int .i64 a3, .int .i64 a4, .int .i64 a5, .int .i64 a6, .int .i64 a7, .int .i64 a8, .int .i64 x, .int .i64 y, .int .i64 z] 38)) [(w.heap.size + 1, [.int .i64 a0, .int .i64 a1, .int .i64 a2, .int .i64 a3, .int .i64 a4, .int .i64 a5, .int .i64 a6, .int .i64 a7, .int .i64 a8, .int .i64 x, .int .i64 y, .int .i64 z]), (w.heap.size, [.int .i64 a0, .int .i64 a1, .int .i64 a2, .int .i64 a3, .int .i64 a4, .int .i64 a5, .int .i64 a6, .int .i64 a7, .int .i64 a8, .int .i64 x, .int .i64 y, .int .i64 z])] := by
    have h := ((Held.nil w).new #[.int .i64 a0, .int .i64 a1, .int .i64 a2, .int .i64 a3, .int .i64 a4, .int .i64 a5, .int .i64 a6, .int .i64 a7, .int .i64 a8, .int .i64 x, .int .i64 y, .int .i64 z] 38).new #[.int .i64 a0, .int .i64 a1, .int .i64 a2, .int .i64 a3, .int .i64 a4, .int .i64 a5, .int .i64 a6, .int .i64 a7, .int .i64 a8, .int .i64 x, .int .i64 y, .int .i64 z] 38
    simpa only [World.size_alloc] using h
  obtain ⟨xs, hxs⟩ : ∃ xs : List V3, xs = [(a0, a1, a2), (a3, a4, a5), (a6, a7, a8), (x, y, z)] := ⟨_, rfl⟩
  have hlen : xs.length = 4 := by rw [hxs]; rfl
  have HT : Held w ((w.alloc (.cells #[.int .i64 a0, .int .i64 a1, .int .i64 a2, .int .i64 a3, .int .i64 a4, .int .i64 a5, .int .i64 a6, .int .i64 a7, .int .i64 a8, .int .i64 x, .int .i64 y, .int .i64 z] 38)).alloc (.cells #[.int .i64 a0, .int .i64 a1, .int .i64 a2, .int .i64 a3, .int .i64 a4, .int .i64 a5, .int .i64 a6, .int .i64 a7, .int .i64 a8, .int .i64 x, .int .i64 y, .int .i64 z] 38)) [(w.heap.size + 1, xs.flatMap vg), (w.heap.size, xs.flatMap vg)] := by rw [hxs]; exact HT
  clear hxs
  go_enter Try.func62, Try.ntmps62
  go_wp2
  go_loopw [5] (fun i wr => ∃ k : Nat, k ≤ 4 ∧ i = .int .i64 k ∧ Held w wr [(w.heap.size + 1, xs.flatMap vg), (w.heap.size, xs.flatMap vg)]) (fun i _ => 4 - (intOf i).toNat)
  case atStart => exact ⟨0, Nat.zero_le _, rfl, HT⟩
  case round =>
    clear HT
    obtain ⟨k, hk, rfl, HT⟩ := hrel
    by_cases hlt : k < 4
    · have hv := List.getElem?_eq_getElem (show k < xs.length by omega)
      generalize xs[k]'(by omega) = v at hv
      have HC : ∀ W, Held w W [(w.heap.size + 1, xs.flatMap vg), (w.heap.size, xs.flatMap vg)] → (W.cell? ⟨w.heap.size + 1, k * 3, none⟩ = some (.int .i64 v.1) ∧ W.cell? ⟨w.heap.size + 1, k * 3 + 1, none⟩ = some (.int .i64 v.2.1) ∧ W.cell? ⟨w.heap.size + 1, k * 3 + 2, none⟩ = some (.int .i64 v.2.2) ∧ W.cell? ⟨w.heap.size, k * 3, none⟩ = some (.int .i64 v.1) ∧ W.cell? ⟨w.heap.size, k * 3 + 1, none⟩ = some (.int .i64 v.2.1) ∧ W.cell? ⟨w.heap.size, k * 3 + 2, none⟩ = some (.int .i64 v.2.2)) := fun W h => ⟨((h.box 0).v3 hv).1, ((h.box 0).v3 hv).2.1, ((h.box 0).v3 hv).2.2, ((h.box 1).v3 hv).1, ((h.box 1).v3 hv).2.1, ((h.box 1).v3 hv).2.2⟩
      have hlt' : (k : Int) < 4 := by omega
      have hge' : (0 : Int) ≤ (k : Int) := by omega

      clear hv
      go_wp2_with fail
      go_region_held3 (fun w' => w'.cell? ⟨w.heap.size + 1, k * 3, none⟩ = some (.int .i64 v.1) ∧ w'.cell? ⟨w.heap.size + 1, k * 3 + 1, none⟩ = some (.int .i64 v.2.1) ∧ w'.cell? ⟨w.heap.size + 1, k * 3 + 2, none⟩ = some (.int .i64 v.2.2) ∧ w'.cell? ⟨w.heap.size, k * 3, none⟩ = some (.int .i64 v.1) ∧ w'.cell? ⟨w.heap.size, k * 3 + 1, none⟩ = some (.int .i64 v.2.1) ∧ w'.cell? ⟨w.heap.size, k * 3 + 2, none⟩ = some (.int .i64 v.2.2))
        (first | (with_reducible exact HC _ HT) | (with_reducible exact HC _ HT.drew))
        (first | (go_at_call 76; refine (eqVec_same _ _ _ _).mono ?_; rintro e w1 ⟨rfl, hb1⟩; (first | (have HT := HT.later hb1) | (have HT := HT.drew.later hb1))))
      clear HC
      go_wp2_with fail
      go_roundw
      case rel => exact ⟨k + 1, by omega, by go_num, HT⟩
      case measure => simp [intOf]; omega
    · go_wp2
      go_ret
      exact ⟨rfl, HT.below⟩

set_option maxHeartbeats 4000000 in
theorem toPatch_any (a0 a1 a2 a3 a4 a5 a6 a7 a8 x y z : Int) (w : World) :
    Calls Try.prog 31 #[tr a0 a1 a2 a3 a4 a5 a6 a7 a8 x y z] w (TrOut a0 a1 a2 a3 a4 a5 a6 a7 a8 x y z w) := by
  have HT : Held w (((w.alloc (.cells #[.int .i64 a0, .int .i64 a1, .int .i64 a2, .int .i64 a3, .int .i64 a4, .int .i64 a5, .int .i64 a6, .int .i64 a7, .int .i64 a8, .int .i64 x, .int .i64 y, .int .i64 z] 63)).alloc (.cells #[.int .i64 0, .int .i64 0, .int .i64 0, .int .i64 0, .int .i64 0, .int .i64 0, .int .i64 0, .int .i64 0, .int .i64 0, .int .i64 0, .int .i64 0, .int .i64 0] 40)).alloc (.cells #[.int .i64 0, .int .i64 0, .int .i64 0, .int .i64 0, .int .i64 0, .int .i64 0, .int .i64 0, .int .i64 0, .int .i64 0, .int .i64 0, .int .i64 0, .int .i64 0] 40)) [(w.heap.size + 2, [.int .i64 0, .int .i64 0, .int .i64 0, .int .i64 0, .int .i64 0, .int .i64 0, .int .i64 0, .int .i64 0, .int .i64 0, .int .i64 0, .int .i64 0, .int .i64 0]), (w.heap.size + 1, [.int .i64 0, .int .i64 0, .int .i64 0, .int .i64 0, .int .i64 0, .int .i64 0, .int .i64 0, .int .i64 0, .int .i64 0, .int .i64 0, .int .i64 0, .int .i64 0]), (w.heap.size, [.int .i64 a0, .int .i64 a1, .int .i64 a2, .int .i64 a3, .int .i64 a4, .int .i64 a5, .int .i64 a6, .int .i64 a7, .int .i64 a8, .int .i64 x, .int .i64 y, .int .i64 z])] := by
    have h := (((Held.nil w).new #[.int .i64 a0, .int .i64 a1, .int .i64 a2, .int .i64 a3, .int .i64 a4, .int .i64 a5, .int .i64 a6, .int .i64 a7, .int .i64 a8, .int .i64 x, .int .i64 y, .int .i64 z] 63).new #[.int .i64 0, .int .i64 0, .int .i64 0, .int .i64 0, .int .i64 0, .int .i64 0, .int .i64 0, .int .i64 0, .int .i64 0, .int .i64 0, .int .i64 0, .int .i64 0] 40).new #[.int .i64 0, .int .i64 0, .int .i64 0, .int .i64 0, .int .i64 0, .int .i64 0, .int .i64 0, .int .i64 0, .int .i64 0, .int .i64 0, .int .i64 0, .int .i64 0] 40
    simpa only [World.size_alloc] using h
  go_enter Try.func31, Try.ntmps31
  go_wp2_with fail
  refine (toVecA4_any _ _ _ _ _ _ _ _ _ _ _ _ _).mono ?_
  rintro e w1 ⟨rfl, hb1⟩
  have HT := (HT.later hb1)
  clear hb1
  have d0 := (HT.box 0).c 0
  have d1 := (HT.box 0).c 1
  have d2 := (HT.box 0).c 2
  have d3 := (HT.box 0).c 3
  have d4 := (HT.box 0).c 4
  have d5 := (HT.box 0).c 5
  have d6 := (HT.box 0).c 6
  have d7 := (HT.box 0).c 7
  have d8 := (HT.box 0).c 8
  have d9 := (HT.box 0).c 9
  have d10 := (HT.box 0).c 10
  have d11 := (HT.box 0).c 11
  have f0 := (HT.box 0).f 0
  have f1 := (HT.box 0).f 1
  have f2 := (HT.box 0).f 2
  have f3 := (HT.box 0).f 3
  have f4 := (HT.box 0).f 4
  have f5 := (HT.box 0).f 5
  have f6 := (HT.box 0).f 6
  have f7 := (HT.box 0).f 7
  have f8 := (HT.box 0).f 8
  have f9 := (HT.box 0).f 9
  have f10 := (HT.box 0).f 10
  have f11 := (HT.box 0).f 11
  go_upto_region 3 with fail
  have HP := HT.put12 (by omega) (by simp) (.int .i64 a0) (.int .i64 a1) (.int .i64 a2) (.int .i64 a3) (.int .i64 a4) (.int .i64 a5) (.int .i64 a6) (.int .i64 a7) (.int .i64 a8) (.int .i64 x) (.int .i64 y) (.int .i64 z)
  clear HT d0 d1 d2 d3 d4 d5 d6 d7 d8 d9 d10 d11 f0 f1 f2 f3 f4 f5 f6 f7 f8 f9 f10 f11
  generalize ((((((((((((w1.setCell ⟨(w.heap.size + 2), 0, none⟩ (.int .i64 a0)).setCell ⟨(w.heap.size + 2), 1, none⟩ (.int .i64 a1)).setCell ⟨(w.heap.size + 2), 2, none⟩ (.int .i64 a2)).setCell ⟨(w.heap.size + 2), 3, none⟩ (.int .i64 a3)).setCell ⟨(w.heap.size + 2), 4, none⟩ (.int .i64 a4)).setCell ⟨(w.heap.size + 2), 5, none⟩ (.int .i64 a5)).setCell ⟨(w.heap.size + 2), 6, none⟩ (.int .i64 a6)).setCell ⟨(w.heap.size + 2), 7, none⟩ (.int .i64 a7)).setCell ⟨(w.heap.size + 2), 8, none⟩ (.int .i64 a8)).setCell ⟨(w.heap.size + 2), 9, none⟩ (.int .i64 x)).setCell ⟨(w.heap.size + 2), 10, none⟩ (.int .i64 y)).setCell ⟨(w.heap.size + 2), 11, none⟩ (.int .i64 z)) = W2 at HP ⊢
  have HT := HP
  clear HP
  have d0 := (HT.box 0).c 0
  have d1 := (HT.box 0).c 1
  have d2 := (HT.box 0).c 2
  have d3 := (HT.box 0).c 3
  have d4 := (HT.box 0).c 4
  have d5 := (HT.box 0).c 5
  have d6 := (HT.box 0).c 6
  have d7 := (HT.box 0).c 7
  have d8 := (HT.box 0).c 8
  have d9 := (HT.box 0).c 9
  have d10 := (HT.box 0).c 10
  have d11 := (HT.box 0).c 11
  have r0 := (HT.box 1).c 0
  have r1 := (HT.box 1).c 1
  have r2 := (HT.box 1).c 2
  have r3 := (HT.box 1).c 3
  have r4 := (HT.box 1).c 4
  have r5 := (HT.box 1).c 5
  have r6 := (HT.box 1).c 6
  have r7 := (HT.box 1).c 7
  have r8 := (HT.box 1).c 8
  have r9 := (HT.box 1).c 9
  have r10 := (HT.box 1).c 10
  have r11 := (HT.box 1).c 11
  have g0 := (HT.box 1).f 0
  have g1 := (HT.box 1).f 1
  have g2 := (HT.box 1).f 2
  have g3 := (HT.box 1).f 3
  have g4 := (HT.box 1).f 4
  have g5 := (HT.box 1).f 5
  have g6 := (HT.box 1).f 6
  have g7 := (HT.box 1).f 7
  have g8 := (HT.box 1).f 8
  have g9 := (HT.box 1).f 9
  have g10 := (HT.box 1).f 10
  have g11 := (HT.box 1).f 11
  have HW := HT.below
  clear HT
  go_wp2_with fail
  exact bodyPost_ret (v := tr a0 a1 a2 a3 a4 a5 a6 a7 a8 x y z) (by simp [results, Try.results31, go_sem, r0, r1, r2, r3, r4, r5, r6, r7, r8, r9, r10, r11]) rfl ⟨rfl, bset_far12 HW (by omega)⟩

set_option maxHeartbeats 4000000 in
theorem eqPatch_same (a0 a1 a2 a3 a4 a5 a6 a7 a8 x y z : Int) (w : World) :
    Calls Try.prog 32 #[tr a0 a1 a2 a3 a4 a5 a6 a7 a8 x y z, tr a0 a1 a2 a3 a4 a5 a6 a7 a8 x y z] w (BOut true w) := by
  have HT : Held w ((w.alloc (.cells #[.int .i64 a0, .int .i64 a1, .int .i64 a2, .int .i64 a3, .int .i64 a4, .int .i64 a5, .int .i64 a6, .int .i64 a7, .int .i64 a8, .int .i64 x, .int .i64 y, .int .i64 z] 40)).alloc (.cells #[.int .i64 a0, .int .i64 a1, .int .i64 a2, .int .i64 a3, .int .i64 a4, .int .i64 a5, .int .i64 a6, .int .i64 a7, .int .i64 a8, .int .i64 x, .int .i64 y, .int .i64 z] 40)) [(w.heap.size + 1, [.int .i64 a0, .int .i64 a1, .int .i64 a2, .int .i64 a3, .int .i64 a4, .int .i64 a5, .int .i64 a6, .int .i64 a7, .int .i64 a8, .int .i64 x, .int .i64 y, .int .i64 z]), (w.heap.size, [.int .i64 a0, .int .i64 a1, .int .i64 a2, .int .i64 a3, .int .i64 a4, .int .i64 a5, .int .i64 a6, .int .i64 a7, .int .i64 a8, .int .i64 x, .int .i64 y, .int .i64 z])] := by
    have h := ((Held.nil w).new #[.int .i64 a0, .int .i64 a1, .int .i64 a2, .int .i64 a3, .int .i64 a4, .int .i64 a5, .int .i64 a6, .int .i64 a7, .int .i64 a8, .int .i64 x, .int .i64 y, .int .i64 z] 40).new #[.int .i64 a0, .int .i64 a1, .int .i64 a2, .int .i64 a3, .int .i64 a4, .int .i64 a5, .int .i64 a6, .int .i64 a7, .int .i64 a8, .int .i64 x, .int .i64 y, .int .i64 z] 40
    simpa only [World.size_alloc] using h
  go_enter Try.func32, Try.ntmps32
  go_wp2_with fail
  refine (eqVecA4_same _ _ _ _ _ _ _ _ _ _ _ _ _).mono ?_
  rintro e w1 ⟨rfl, hb1⟩
  have HT := (HT.later hb1)
  clear hb1
  go_wp2_with fail
  go_ret
  exact ⟨rfl, HT.below⟩
end Go.Proofs.Ytbgpcgimmiinbaa
