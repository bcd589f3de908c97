/- Contracts of IsValidTransform: the program and its model. -/
import Derived.Test.YtjflkapdnnecjaaDoorProg
import Derived.Test.YtjflkapdnnecjaaDoorInts
import Derived.Test.YtjflkapdnnecjaaDoorVbox
import Derived.Test.YtjflkapdnnecjaaDoorVec
import Derived.Test.YtjflkapdnnecjaaDoorHeld
import Derived.Test.YtjflkapdnnecjaaDoorArr
import Derived.Test.YtjflkapdnnecjaaDoorTr
import Derived.WalkKit
import Derived.WalkSpells
import Derived.WalkLawsBesides
import Derived.Lib.Hide
import Derived.Deep.RegionHeld3
import Derived.Deep.QuietTactic
import Derived.BigQuiet
import Derived.Handy
import Derived.Deep.DeepCutAuto
namespace Go.Proofs.YtjflkapdnnecjaaDoor
open Go.RowKit

theorem eql_mat (a0 a1 a2 a3 a4 a5 a6 a7 a8 b0 b1 b2 b3 b4 b5 b6 b7 b8 : Int) (w : World) : (binOp .eql 22 (mat a0 a1 a2 a3 a4 a5 a6 a7 a8) (mat b0 b1 b2 b3 b4 b5 b6 b7 b8)).run Tryd.prog w = .ok (.bool ([a0, a1, a2, a3, a4, a5, a6, a7, a8] == [b0, b1, b2, b3, b4, b5, b6, b7, b8])) w :=
  eql_ints w 22 3 9 Tryd.underlying22 Tryd.underlying3 Tryd.sizeOf3 [a0, a1, a2, a3, a4, a5, a6, a7, a8] [b0, b1, b2, b3, b4, b5, b6, b7, b8] rfl rfl
theorem index_mat (a0 a1 a2 a3 a4 a5 a6 a7 a8 v : Int) (k : Nat) (h : [a0, a1, a2, a3, a4, a5, a6, a7, a8][k]? = some v) (w : World) : (Instr.index 22 (mat a0 a1 a2 a3 a4 a5 a6 a7 a8) (.int .i64 k)).run Tryd.prog w = .ok (.int .i64 v) w := by
  match k, h with
  | 0, h => obtain rfl := Option.some.inj h; exact (show (Instr.index 22 (mat a0 a1 a2 a3 a4 a5 a6 a7 a8) (.int .i64 ((0 : Nat) : Int))).run Tryd.prog w = .ok (.int .i64 a0) w by kernel_rfl)
  | 1, h => obtain rfl := Option.some.inj h; exact (show (Instr.index 22 (mat a0 a1 a2 a3 a4 a5 a6 a7 a8) (.int .i64 ((1 : Nat) : Int))).run Tryd.prog w = .ok (.int .i64 a1) w by kernel_rfl)
  | 2, h => obtain rfl := Option.some.inj h; exact (show (Instr.index 22 (mat a0 a1 a2 a3 a4 a5 a6 a7 a8) (.int .i64 ((2 : Nat) : Int))).run Tryd.prog w = .ok (.int .i64 a2) w by kernel_rfl)
  | 3, h => obtain rfl := Option.some.inj h; exact (show (Instr.index 22 (mat a0 a1 a2 a3 a4 a5 a6 a7 a8) (.int .i64 ((3 : Nat) : Int))).run Tryd.prog w = .ok (.int .i64 a3) w by kernel_rfl)
  | 4, h => obtain rfl := Option.some.inj h; exact (show (Instr.index 22 (mat a0 a1 a2 a3 a4 a5 a6 a7 a8) (.int .i64 ((4 : Nat) : Int))).run Tryd.prog w = .ok (.int .i64 a4) w by kernel_rfl)
  | 5, h => obtain rfl := Option.some.inj h; exact (show (Instr.index 22 (mat a0 a1 a2 a3 a4 a5 a6 a7 a8) (.int .i64 ((5 : Nat) : Int))).run Tryd.prog w = .ok (.int .i64 a5) w by kernel_rfl)
  | 6, h => obtain rfl := Option.some.inj h; exact (show (Instr.index 22 (mat a0 a1 a2 a3 a4 a5 a6 a7 a8) (.int .i64 ((6 : Nat) : Int))).run Tryd.prog w = .ok (.int .i64 a6) w by kernel_rfl)
  | 7, h => obtain rfl := Option.some.inj h; exact (show (Instr.index 22 (mat a0 a1 a2 a3 a4 a5 a6 a7 a8) (.int .i64 ((7 : Nat) : Int))).run Tryd.prog w = .ok (.int .i64 a7) w by kernel_rfl)
  | 8, h => obtain rfl := Option.some.inj h; exact (show (Instr.index 22 (mat a0 a1 a2 a3 a4 a5 a6 a7 a8) (.int .i64 ((8 : Nat) : Int))).run Tryd.prog w = .ok (.int .i64 a8) w by kernel_rfl)
  | k + 9, h => simp at h

set_option maxHeartbeats 2000000 in
theorem clampedMatrix_any (a0 a1 a2 a3 a4 a5 a6 a7 a8 : Int) (w : World) :
    Calls Tryd.prog 70 #[mat a0 a1 a2 a3 a4 a5 a6 a7 a8] w (MatOut (c64 a0) (c64 a1) (c64 a2) (c64 a3) (c64 a4) (c64 a5) (c64 a6) (c64 a7) (c64 a8) w) := by
  have HT : Held w ((w.alloc (.cells #[.int .i64 a0, .int .i64 a1, .int .i64 a2, .int .i64 a3, .int .i64 a4, .int .i64 a5, .int .i64 a6, .int .i64 a7, .int .i64 a8] 22)).alloc (.cells #[.int .i64 0, .int .i64 0, .int .i64 0, .int .i64 0, .int .i64 0, .int .i64 0, .int .i64 0, .int .i64 0, .int .i64 0] 22)) [(w.heap.size + 1, [.int .i64 0, .int .i64 0, .int .i64 0, .int .i64 0, .int .i64 0, .int .i64 0, .int .i64 0, .int .i64 0, .int .i64 0]), (w.heap.size, [.int .i64 a0, .int .i64 a1, .int .i64 a2, .int .i64 a3, .int .i64 a4, .int .i64 a5, .int .i64 a6, .int .i64 a7, .int .i64 a8])] := by
    have h := ((Held.nil w).new #[.int .i64 a0, .int .i64 a1, .int .i64 a2, .int .i64 a3, .int .i64 a4, .int .i64 a5, .int .i64 a6, .int .i64 a7, .int .i64 a8] 22).new #[.int .i64 0, .int .i64 0, .int .i64 0, .int .i64 0, .int .i64 0, .int .i64 0, .int .i64 0, .int .i64 0, .int .i64 0] 22
    simpa only [World.size_alloc] using h
  obtain ⟨xs, hxs⟩ : ∃ xs, xs = [a0, a1, a2, a3, a4, a5, a6, a7, a8] := ⟨_, rfl⟩
  have hlen : xs.length = 9 := by rw [hxs]; rfl
  obtain ⟨ys, hys⟩ : ∃ ys, ys = xs.map c64 := ⟨_, rfl⟩
  have hlen' : ys.length = 9 := by rw [hys]; simpa using hlen
  have HT := HT.pick (cs := [(w.heap.size, [.int .i64 a0, .int .i64 a1, .int .i64 a2, .int .i64 a3, .int .i64 a4, .int .i64 a5, .int .i64 a6, .int .i64 a7, .int .i64 a8]), (w.heap.size + 1, [.int .i64 0, .int .i64 0, .int .i64 0, .int .i64 0, .int .i64 0, .int .i64 0, .int .i64 0, .int .i64 0, .int .i64 0])]) (by simp)
  have HT : Held w ((w.alloc (.cells #[.int .i64 a0, .int .i64 a1, .int .i64 a2, .int .i64 a3, .int .i64 a4, .int .i64 a5, .int .i64 a6, .int .i64 a7, .int .i64 a8] 22)).alloc (.cells #[.int .i64 0, .int .i64 0, .int .i64 0, .int .i64 0, .int .i64 0, .int .i64 0, .int .i64 0, .int .i64 0, .int .i64 0] 22)) [(w.heap.size, ints (part2 xs ys 0)), (w.heap.size + 1, [.int .i64 0, .int .i64 0, .int .i64 0, .int .i64 0, .int .i64 0, .int .i64 0, .int .i64 0, .int .i64 0, .int .i64 0])] := by rw [part2_zero, hxs]; exact HT
  have HX := Lib.hid hxs
  have HY := Lib.hid hys
  clear hxs hys
  go_enter Tryd.func70, Tryd.ntmps70
  go_wp2
  go_loopw [4] (fun i wr => ∃ k : Nat, k ≤ 9 ∧ i = .int .i64 k ∧ Held w wr [(w.heap.size, ints (part2 xs ys k)), (w.heap.size + 1, [.int .i64 0, .int .i64 0, .int .i64 0, .int .i64 0, .int .i64 0, .int .i64 0, .int .i64 0, .int .i64 0, .int .i64 0])]) (fun i _ => 9 - (intOf i).toNat)
  case atStart => exact ⟨0, Nat.zero_le _, rfl, HT⟩
  case round =>
    clear HT
    obtain ⟨k, hk, rfl, HT⟩ := hrel
    by_cases hlt : k < 9
    · have he := part2_at (xs := xs) (ys := ys) (by omega) (k := k) (by omega)
      have hs := part2_step (xs := xs) (ys := ys) (by omega) (k := k) (by omega)
      have hy : ys[k]'(by omega) = c64 (xs[k]'(by omega)) := by simp [HY.out]
      rw [hy] at hs
      generalize xs[k]'(by omega) = v at he hs
      clear hy
      have c0 := (HT.box 0).int he
      have f0 := (HT.box 0).intF he
      have hlt' : (k : Int) < 9 := by omega
      have hge' : (0 : Int) ≤ (k : Int) := by omega
      have HP := HT.put (by omega) (by simp <;> omega) k (.int .i64 (c64 v))
      rw [ints_set, hs] at HP
      have HS := Lib.hid HP
      clear HT HP he hs
      go_wp2_with (go_at_call 92; refine (clamp_any _ _ _ _).mono ?_; rintro e w' ⟨rfl, rfl⟩)
      go_roundw
      case rel => exact ⟨k + 1, by omega, by go_num, HS.out⟩
      case measure => simp [intOf]; omega
    · have e : k = 9 := by omega
      subst e
      have HT : Held w wr [(w.heap.size, [.int .i64 (c64 a0), .int .i64 (c64 a1), .int .i64 (c64 a2), .int .i64 (c64 a3), .int .i64 (c64 a4), .int .i64 (c64 a5), .int .i64 (c64 a6), .int .i64 (c64 a7), .int .i64 (c64 a8)]), (w.heap.size + 1, [.int .i64 0, .int .i64 0, .int .i64 0, .int .i64 0, .int .i64 0, .int .i64 0, .int .i64 0, .int .i64 0, .int .i64 0])] := by
        rw [HY.out, HX.out] at HT
        exact HT
      have c0 := (HT.box 0).c 0
      have c1 := (HT.box 0).c 1
      have c2 := (HT.box 0).c 2
      have c3 := (HT.box 0).c 3
      have c4 := (HT.box 0).c 4
      have c5 := (HT.box 0).c 5
      have c6 := (HT.box 0).c 6
      have c7 := (HT.box 0).c 7
      have c8 := (HT.box 0).c 8
      have r0 := (HT.box 1).c 0
      have r1 := (HT.box 1).c 1
      have r2 := (HT.box 1).c 2
      have r3 := (HT.box 1).c 3
      have r4 := (HT.box 1).c 4
      have r5 := (HT.box 1).c 5
      have r6 := (HT.box 1).c 6
      have r7 := (HT.box 1).c 7
      have r8 := (HT.box 1).c 8
      have g0 := (HT.box 1).f 0
      have g1 := (HT.box 1).f 1
      have g2 := (HT.box 1).f 2
      have g3 := (HT.box 1).f 3
      have g4 := (HT.box 1).f 4
      have g5 := (HT.box 1).f 5
      have g6 := (HT.box 1).f 6
      have g7 := (HT.box 1).f 7
      have g8 := (HT.box 1).f 8
      have HW := HT.below
      clear HT
      clear hlt hk hlen hlen' HX HY
      go_wp2_with fail
      exact bodyPost_ret (v := mat (c64 a0) (c64 a1) (c64 a2) (c64 a3) (c64 a4) (c64 a5) (c64 a6) (c64 a7) (c64 a8)) (by simp [results, Tryd.results70, go_sem, r0, r1, r2, r3, r4, r5, r6, r7, r8]) rfl ⟨rfl, bset_far9 HW (by omega)⟩

set_option maxHeartbeats 4000000 in
theorem isValidTransform_any (a0 a1 a2 a3 a4 a5 a6 a7 a8 x y z : Int) (w : World) :
    Calls Tryd.prog 33 #[tr a0 a1 a2 a3 a4 a5 a6 a7 a8 x y z] w (BOut (okT [a0, a1, a2, a3, a4, a5, a6, a7, a8] x y z) w) := by
  have HT : Held w (w.alloc (.cells #[.int .i64 a0, .int .i64 a1, .int .i64 a2, .int .i64 a3, .int .i64 a4, .int .i64 a5, .int .i64 a6, .int .i64 a7, .int .i64 a8, .int .i64 x, .int .i64 y, .int .i64 z] 26)) [(w.heap.size, [.int .i64 a0, .int .i64 a1, .int .i64 a2, .int .i64 a3, .int .i64 a4, .int .i64 a5, .int .i64 a6, .int .i64 a7, .int .i64 a8, .int .i64 x, .int .i64 y, .int .i64 z])] := by
    have h := (Held.nil w).new #[.int .i64 a0, .int .i64 a1, .int .i64 a2, .int .i64 a3, .int .i64 a4, .int .i64 a5, .int .i64 a6, .int .i64 a7, .int .i64 a8, .int .i64 x, .int .i64 y, .int .i64 z] 26
    simpa only [World.size_alloc] using h
  have HC : ∀ W, Held w W [(w.heap.size, [.int .i64 a0, .int .i64 a1, .int .i64 a2, .int .i64 a3, .int .i64 a4, .int .i64 a5, .int .i64 a6, .int .i64 a7, .int .i64 a8, .int .i64 x, .int .i64 y, .int .i64 z])] → (W.cell? ⟨w.heap.size, 0, none⟩ = some (.int .i64 a0) ∧ W.cell? ⟨w.heap.size, 1, none⟩ = some (.int .i64 a1) ∧ W.cell? ⟨w.heap.size, 2, none⟩ = some (.int .i64 a2) ∧ W.cell? ⟨w.heap.size, 3, none⟩ = some (.int .i64 a3) ∧ W.cell? ⟨w.heap.size, 4, none⟩ = some (.int .i64 a4) ∧ W.cell? ⟨w.heap.size, 5, none⟩ = some (.int .i64 a5) ∧ W.cell? ⟨w.heap.size, 6, none⟩ = some (.int .i64 a6) ∧ W.cell? ⟨w.heap.size, 7, none⟩ = some (.int .i64 a7) ∧ W.cell? ⟨w.heap.size, 8, none⟩ = some (.int .i64 a8) ∧ W.cell? ⟨w.heap.size, 9, none⟩ = some (.int .i64 x) ∧ W.cell? ⟨w.heap.size, 10, none⟩ = some (.int .i64 y) ∧ W.cell? ⟨w.heap.size, 11, none⟩ = some (.int .i64 z) ∧ W.rangeAt (w.heap.size) 0 [.int .i64 a0, .int .i64 a1, .int .i64 a2, .int .i64 a3, .int .i64 a4, .int .i64 a5, .int .i64 a6, .int .i64 a7, .int .i64 a8]) := fun W h => ⟨(h.box 0).c 0, (h.box 0).c 1, (h.box 0).c 2, (h.box 0).c 3, (h.box 0).c 4, (h.box 0).c 5, (h.box 0).c 6, (h.box 0).c 7, (h.box 0).c 8, (h.box 0).c 9, (h.box 0).c 10, (h.box 0).c 11, (h.box 0).range9⟩
  have heq : ∀ w : World, (binOp .eql 22 (mat a0 a1 a2 a3 a4 a5 a6 a7 a8) (mat (c64 a0) (c64 a1) (c64 a2) (c64 a3) (c64 a4) (c64 a5) (c64 a6) (c64 a7) (c64 a8))).run Tryd.prog w = .ok (.bool (okM [a0, a1, a2, a3, a4, a5, a6, a7, a8])) w := fun w => by rw [eql_mat, ← okM_eq]; rfl
  rcases h0 : okM [a0, a1, a2, a3, a4, a5, a6, a7, a8] with _ | _
  · rw [h0] at heq
    go_enter Tryd.func33, Tryd.ntmps33
    go_wp2_with fail
    first | go_region_with (first | (go_at_call 70; refine (clampedMatrix_any _ _ _ _ _ _ _ _ _ _).mono ?_; rintro e w1 ⟨rfl, hb1⟩; (first | (have HT := HT.later hb1) | (have HT := HT.drew.later hb1)); obtain ⟨c0, c1, c2, c3, c4, c5, c6, c7, c8, c9, c10, c11, _⟩ := HC _ HT)) | fail
    all_goals
      go_wp2_with fail
      go_ret
      exact ⟨retB (okT_no1 h0), HT.below⟩
  · rw [h0] at heq
    obtain ⟨c0, c1, c2, c3, c4, c5, c6, c7, c8, c9, c10, c11, _⟩ := HC _ HT
    go_enter Tryd.func33, Tryd.ntmps33
    go_wp2_with fail
    go_region_with (first | (go_at_call 70; refine (clampedMatrix_any _ _ _ _ _ _ _ _ _ _).mono ?_; rintro e w1 ⟨rfl, hb1⟩; (first | (have HT := HT.later hb1) | (have HT := HT.drew.later hb1)); clear c0 c1 c2 c3 c4 c5 c6 c7 c8 c9 c10 c11; obtain ⟨c0, c1, c2, c3, c4, c5, c6, c7, c8, c9, c10, c11, _⟩ := HC _ HT) | (go_at_call 49; refine (isValidVec_any _ _ _ _).mono ?_; rintro e w1 ⟨rfl, hb1⟩; (first | (have HT := HT.later hb1) | (have HT := HT.drew.later hb1)); clear c0 c1 c2 c3 c4 c5 c6 c7 c8 c9 c10 c11))
    all_goals
      go_wp2_with fail
      go_ret
      exact ⟨retB (okT_yes h0), HT.below⟩

set_option maxHeartbeats 4000000 in
theorem sIsValidTransform_any (a0 a1 a2 a3 a4 a5 a6 a7 a8 x y z : Int) (w : World) :
    Calls Tryd.prog 66 #[tr a0 a1 a2 a3 a4 a5 a6 a7 a8 x y z] w (BOut (okT [a0, a1, a2, a3, a4, a5, a6, a7, a8] x y z) w) := by
  have HT : Held w (w.alloc (.cells #[.int .i64 a0, .int .i64 a1, .int .i64 a2, .int .i64 a3, .int .i64 a4, .int .i64 a5, .int .i64 a6, .int .i64 a7, .int .i64 a8, .int .i64 x, .int .i64 y, .int .i64 z] 26)) [(w.heap.size, [.int .i64 a0, .int .i64 a1, .int .i64 a2, .int .i64 a3, .int .i64 a4, .int .i64 a5, .int .i64 a6, .int .i64 a7, .int .i64 a8, .int .i64 x, .int .i64 y, .int .i64 z])] := by
    have h := (Held.nil w).new #[.int .i64 a0, .int .i64 a1, .int .i64 a2, .int .i64 a3, .int .i64 a4, .int .i64 a5, .int .i64 a6, .int .i64 a7, .int .i64 a8, .int .i64 x, .int .i64 y, .int .i64 z] 26
    simpa only [World.size_alloc] using h
  obtain ⟨xs, hxs⟩ : ∃ xs, xs = [a0, a1, a2, a3, a4, a5, a6, a7, a8] := ⟨_, rfl⟩
  have hlen : xs.length = 9 := by rw [hxs]; rfl
  have hix := fun (v : Int) (k : Nat) => index_mat a0 a1 a2 a3 a4 a5 a6 a7 a8 v k
  rw [← hxs] at hix ⊢
  have HX := Lib.hid hxs
  have HI := Lib.hid hix
  clear hxs hix
  have HT0 := HT
  clear HT
  go_enter Tryd.func66, Tryd.ntmps66
  go_wp2
  go_loopw [7] (fun i wr => ∃ k : Nat, k ≤ 9 ∧ i = .int .i64 k ∧ okM (xs.take k) = true ∧ Held w wr [(w.heap.size, [.int .i64 a0, .int .i64 a1, .int .i64 a2, .int .i64 a3, .int .i64 a4, .int .i64 a5, .int .i64 a6, .int .i64 a7, .int .i64 a8, .int .i64 x, .int .i64 y, .int .i64 z])]) (fun i _ => 9 - (intOf i).toNat)
  case atStart => exact ⟨0, Nat.zero_le _, rfl, rfl, HT0⟩
  case round =>
    clear HT0
    obtain ⟨k, hk, rfl, hok, HT⟩ := hrel
    by_cases hlt : k < 9
    · have hv := List.getElem?_eq_getElem (show k < xs.length by omega)
      generalize xs[k]'(by omega) = v at hv
      have hix := HI.out v k hv
      have hlt' : (k : Int) < 9 := by omega
      have hge' : (0 : Int) ≤ (k : Int) := by omega
      have HV := Lib.hid hv
      clear hv HI HX
      by_cases hin : -64 ≤ v ∧ v ≤ 64
      · have HO := Lib.hid (okM_take hok HV.out hin.1 hin.2)
        clear hok
        go_wp2_with fail
        refine (inV_yes _ _ _ _ hin.1 hin.2).mono ?_
        rintro e w' ⟨rfl, rfl⟩
        clear hin
        go_wp2
        go_roundw
        case rel => exact ⟨k + 1, by omega, by go_num, HO.out, HT⟩
        case measure => simp [intOf]; omega
      · have HO := Lib.hid hin
        clear hok hin
        go_wp2_with fail
        refine (inV_no _ _ _ _ HO.out).mono ?_
        rintro e w' ⟨rfl, rfl⟩
        go_wp2
        go_ret
        exact ⟨retB (okT_no1 (okM_bad HV.out HO.out)), HT.below⟩
    · have e : k = 9 := by omega
      subst e
      rw [List.take_of_length_le (by omega)] at hok
      have HO := Lib.hid hok
      clear hok HI HX hlen hlt
      have c0 := (HT.box 0).c 0
      have c1 := (HT.box 0).c 1
      have c2 := (HT.box 0).c 2
      have c3 := (HT.box 0).c 3
      have c4 := (HT.box 0).c 4
      have c5 := (HT.box 0).c 5
      have c6 := (HT.box 0).c 6
      have c7 := (HT.box 0).c 7
      have c8 := (HT.box 0).c 8
      have c9 := (HT.box 0).c 9
      have c10 := (HT.box 0).c 10
      have c11 := (HT.box 0).c 11
      go_wp2_with fail
      refine (sIsValidVec_any _ _ _ _).mono ?_
      rintro e w1 ⟨rfl, hb1⟩
      have HT := (HT.later hb1)
      clear hb1
      clear c0 c1 c2 c3 c4 c5 c6 c7 c8 c9 c10 c11
      go_wp2
      go_ret
      exact ⟨retB (okT_yes HO.out), HT.below⟩
end Go.Proofs.YtjflkapdnnecjaaDoor
