/- Contract of QuarterTurn about axis 1: the model. -/
import Derived.Test.YtjflkapdnnecjaaDoorProg
import Derived.Test.YtjflkapdnnecjaaDoorInts
import Derived.Test.YtjflkapdnnecjaaDoorVbox
import Derived.Test.YtjflkapdnnecjaaDoorVec
import Derived.Test.YtjflkapdnnecjaaDoorHeld
import Derived.Test.YtjflkapdnnecjaaDoorArr
import Derived.Test.YtjflkapdnnecjaaDoorTr
import Derived.Test.YtjflkapdnnecjaaDoorTMat
import Derived.Test.YtjflkapdnnecjaaDoorTIden
import Derived.Test.YtjflkapdnnecjaaDoorTQm
import Derived.Test.YtjflkapdnnecjaaDoorTQs
import Derived.WalkKit
import Derived.WalkSpells
import Derived.WalkLawsBesides
import Derived.Lib.Hide
import Derived.Deep.RegionHeld3
import Derived.Deep.QuietTactic
import Derived.BigQuiet
import Derived.Handy
import Derived.Deep.DeepCutAuto
namespace Go.Proofs.YtjflkapdnnecjaaDoor
open Go.RowKit

set_option maxHeartbeats 8000000 in
theorem sQuarter_1 (k : Int) (w : World) (h0 : -9223372036854775808 ≤ k) (h1 : k ≤ 9223372036854775807) :
    Calls Tryd.prog 73 #[.int .i64 1, .int .i64 k] w (QtOut 1 (k % 4).toNat w) := by
  obtain ⟨g0, g1, g2⟩ := fdivP_mul k 4 (by omega)
  rw [Int.mul_comm] at g0 g1 g2
  have g3 : -9223372036854775808 ≤ fdivP k 4 * 4 := by omega
  have G := Lib.hid (And.intro g0 (And.intro g3 g2))
  clear g0 g1 g2 g3
  have HT : Held w (w.alloc (.cells #[.int .i64 0, .int .i64 0, .int .i64 0, .int .i64 0, .int .i64 0, .int .i64 0, .int .i64 0, .int .i64 0, .int .i64 0, .int .i64 0, .int .i64 0, .int .i64 0] 26)) [(w.heap.size, [.int .i64 0, .int .i64 0, .int .i64 0, .int .i64 0, .int .i64 0, .int .i64 0, .int .i64 0, .int .i64 0, .int .i64 0, .int .i64 0, .int .i64 0, .int .i64 0])] := by
    have h := (Held.nil w).new #[.int .i64 0, .int .i64 0, .int .i64 0, .int .i64 0, .int .i64 0, .int .i64 0, .int .i64 0, .int .i64 0, .int .i64 0, .int .i64 0, .int .i64 0, .int .i64 0] 26
    simpa only [World.size_alloc] using h
  go_enter Tryd.func73, Tryd.ntmps73
  go_wp2_with fail
  refine (sIdentity_any _).mono ?_
  rintro e w1 ⟨rfl, hb1⟩
  have hs1 := hb1.size
  simp only [World.size_alloc] at hs1
  have HT := (HT.later hb1).new #[.int .i64 16, .int .i64 0, .int .i64 0, .int .i64 0, .int .i64 16, .int .i64 0, .int .i64 0, .int .i64 0, .int .i64 16, .int .i64 0, .int .i64 0, .int .i64 0] 26
  clear hb1
  go_wp2_with fail
  refine (inV_yes _ _ _ _ (by omega) (by omega)).mono ?_
  rintro e w' ⟨rfl, rfl⟩
  generalize w1.alloc _ = W1 at HT ⊢
  generalize w1.heap.size = k1 at HT hs1 ⊢
  have HK1 := Lib.hid hs1
  clear hs1
  have hk1 := HK1.out
  clear HK1
  go_wp2_with fail
  refine (sFloorDiv_any _ _ _ h0 h1).mono ?_
  rintro e w' ⟨rfl, rfl⟩
  obtain ⟨g0, g3, g2⟩ := G.out
  clear G
  go_upto_region 5 with fail

  clear g0 g3 g2
  have hj : 0 ≤ k % 4 ∧ k % 4 ≤ 3 := by omega
  clear h0 h1
  have HT0 : Held w W1 ((k1, ints (qtL 1 (0 : Int).toNat ++ [0, 0, 0])) :: [(w.heap.size, [.int .i64 0, .int .i64 0, .int .i64 0, .int .i64 0, .int .i64 0, .int .i64 0, .int .i64 0, .int .i64 0, .int .i64 0, .int .i64 0, .int .i64 0, .int .i64 0])]) := HT
  clear HT
  go_loopw [6] (fun s wr => ∃ m t : Int, 0 ≤ m ∧ 0 ≤ t ∧ m + t = k % 4 ∧ s = .int .i64 m ∧ Held w wr ((k1, ints (qtL 1 t.toNat ++ [0, 0, 0])) :: [(w.heap.size, [.int .i64 0, .int .i64 0, .int .i64 0, .int .i64 0, .int .i64 0, .int .i64 0, .int .i64 0, .int .i64 0, .int .i64 0, .int .i64 0, .int .i64 0, .int .i64 0])])) (fun s _ => (intOf s).toNat)
  case atStart => exact ⟨k % 4, 0, by omega, by omega, by omega, rfl, HT0⟩
  case round =>
    clear HT0
    obtain ⟨m, t, hm, ht, hmt, rfl, HT⟩ := hrel
    by_cases hm0 : 0 < m
    · have ht3 : t = 0 ∨ t = 1 ∨ t = 2 := by omega
      clear ht hm
      have hm3 : m ≤ 3 := by omega
      rcases ht3 with rfl | rfl | rfl
      · have HT : Held w wr ((k1, [.int .i64 16, .int .i64 0, .int .i64 0, .int .i64 0, .int .i64 16, .int .i64 0, .int .i64 0, .int .i64 0, .int .i64 16, .int .i64 0, .int .i64 0, .int .i64 0]) :: [(w.heap.size, [.int .i64 0, .int .i64 0, .int .i64 0, .int .i64 0, .int .i64 0, .int .i64 0, .int .i64 0, .int .i64 0, .int .i64 0, .int .i64 0, .int .i64 0, .int .i64 0])]) := HT
        have c0 := (HT.box 0).c 0
        have c1 := (HT.box 0).c 1
        have c2 := (HT.box 0).c 2
        have c3 := (HT.box 0).c 3
        have c4 := (HT.box 0).c 4
        have c5 := (HT.box 0).c 5
        have c6 := (HT.box 0).c 6
        have c7 := (HT.box 0).c 7
        have c8 := (HT.box 0).c 8
        have c9 := (HT.box 0).c 9
        have c10 := (HT.box 0).c 10
        have c11 := (HT.box 0).c 11
        have f0 := (HT.box 0).f 0
        have f1 := (HT.box 0).f 1
        have f2 := (HT.box 0).f 2
        have f3 := (HT.box 0).f 3
        have f4 := (HT.box 0).f 4
        have f5 := (HT.box 0).f 5
        have f6 := (HT.box 0).f 6
        have f7 := (HT.box 0).f 7
        have f8 := (HT.box 0).f 8
        have f9 := (HT.box 0).f 9
        have f10 := (HT.box 0).f 10
        have f11 := (HT.box 0).f 11
        go_wp2_with fail
        go_region_with (first | (go_at_call 95; refine (l04Quarter_1 _).mono ?_; rintro e w1 ⟨rfl, hb1⟩; (first | (have HT := HT.later hb1) | (have HT := HT.drew.later hb1)); have c0 := (HT.box 0).c 0; have f0 := (HT.box 0).f 0; have c1 := (HT.box 0).c 1; have f1 := (HT.box 0).f 1; have c2 := (HT.box 0).c 2; have f2 := (HT.box 0).f 2; have c3 := (HT.box 0).c 3; have f3 := (HT.box 0).f 3; have c4 := (HT.box 0).c 4; have f4 := (HT.box 0).f 4; have c5 := (HT.box 0).c 5; have f5 := (HT.box 0).f 5; have c6 := (HT.box 0).c 6; have f6 := (HT.box 0).f 6; have c7 := (HT.box 0).c 7; have f7 := (HT.box 0).f 7; have c8 := (HT.box 0).c 8; have f8 := (HT.box 0).f 8; have c9 := (HT.box 0).c 9; have f9 := (HT.box 0).f 9; have c10 := (HT.box 0).c 10; have f10 := (HT.box 0).f 10; have c11 := (HT.box 0).c 11; have f11 := (HT.box 0).f 11) | (go_at_call 94; refine (mulQ_1_0 _).mono ?_; rintro e w1 ⟨rfl, hb1⟩; (first | (have HT := HT.later hb1) | (have HT := HT.drew.later hb1)); have c0 := (HT.box 0).c 0; have f0 := (HT.box 0).f 0; have c1 := (HT.box 0).c 1; have f1 := (HT.box 0).f 1; have c2 := (HT.box 0).c 2; have f2 := (HT.box 0).f 2; have c3 := (HT.box 0).c 3; have f3 := (HT.box 0).f 3; have c4 := (HT.box 0).c 4; have f4 := (HT.box 0).f 4; have c5 := (HT.box 0).c 5; have f5 := (HT.box 0).f 5; have c6 := (HT.box 0).c 6; have f6 := (HT.box 0).f 6; have c7 := (HT.box 0).c 7; have f7 := (HT.box 0).f 7; have c8 := (HT.box 0).c 8; have f8 := (HT.box 0).f 8; have c9 := (HT.box 0).c 9; have f9 := (HT.box 0).f 9; have c10 := (HT.box 0).c 10; have f10 := (HT.box 0).f 10; have c11 := (HT.box 0).c 11; have f11 := (HT.box 0).f 11))
        all_goals
          go_wp2_with fail
          go_roundw
          case rel => exact ⟨m - 1, 1, by omega, by omega, by omega, rfl, HT.putM (by omega) (by simp <;> omega) (.int .i64 0) (.int .i64 0) (.int .i64 16) (.int .i64 0) (.int .i64 16) (.int .i64 0) (.int .i64 (-16)) (.int .i64 0) (.int .i64 0)⟩
          case measure => simp [intOf]; omega
      · have HT : Held w wr ((k1, [.int .i64 0, .int .i64 0, .int .i64 16, .int .i64 0, .int .i64 16, .int .i64 0, .int .i64 (-16), .int .i64 0, .int .i64 0, .int .i64 0, .int .i64 0, .int .i64 0]) :: [(w.heap.size, [.int .i64 0, .int .i64 0, .int .i64 0, .int .i64 0, .int .i64 0, .int .i64 0, .int .i64 0, .int .i64 0, .int .i64 0, .int .i64 0, .int .i64 0, .int .i64 0])]) := HT
        have c0 := (HT.box 0).c 0
        have c1 := (HT.box 0).c 1
        have c2 := (HT.box 0).c 2
        have c3 := (HT.box 0).c 3
        have c4 := (HT.box 0).c 4
        have c5 := (HT.box 0).c 5
        have c6 := (HT.box 0).c 6
        have c7 := (HT.box 0).c 7
        have c8 := (HT.box 0).c 8
        have c9 := (HT.box 0).c 9
        have c10 := (HT.box 0).c 10
        have c11 := (HT.box 0).c 11
        have f0 := (HT.box 0).f 0
        have f1 := (HT.box 0).f 1
        have f2 := (HT.box 0).f 2
        have f3 := (HT.box 0).f 3
        have f4 := (HT.box 0).f 4
        have f5 := (HT.box 0).f 5
        have f6 := (HT.box 0).f 6
        have f7 := (HT.box 0).f 7
        have f8 := (HT.box 0).f 8
        have f9 := (HT.box 0).f 9
        have f10 := (HT.box 0).f 10
        have f11 := (HT.box 0).f 11
        go_wp2_with fail
        go_region_with (first | (go_at_call 95; refine (l04Quarter_1 _).mono ?_; rintro e w1 ⟨rfl, hb1⟩; (first | (have HT := HT.later hb1) | (have HT := HT.drew.later hb1)); have c0 := (HT.box 0).c 0; have f0 := (HT.box 0).f 0; have c1 := (HT.box 0).c 1; have f1 := (HT.box 0).f 1; have c2 := (HT.box 0).c 2; have f2 := (HT.box 0).f 2; have c3 := (HT.box 0).c 3; have f3 := (HT.box 0).f 3; have c4 := (HT.box 0).c 4; have f4 := (HT.box 0).f 4; have c5 := (HT.box 0).c 5; have f5 := (HT.box 0).f 5; have c6 := (HT.box 0).c 6; have f6 := (HT.box 0).f 6; have c7 := (HT.box 0).c 7; have f7 := (HT.box 0).f 7; have c8 := (HT.box 0).c 8; have f8 := (HT.box 0).f 8; have c9 := (HT.box 0).c 9; have f9 := (HT.box 0).f 9; have c10 := (HT.box 0).c 10; have f10 := (HT.box 0).f 10; have c11 := (HT.box 0).c 11; have f11 := (HT.box 0).f 11) | (go_at_call 94; refine (mulQ_1_1 _).mono ?_; rintro e w1 ⟨rfl, hb1⟩; (first | (have HT := HT.later hb1) | (have HT := HT.drew.later hb1)); have c0 := (HT.box 0).c 0; have f0 := (HT.box 0).f 0; have c1 := (HT.box 0).c 1; have f1 := (HT.box 0).f 1; have c2 := (HT.box 0).c 2; have f2 := (HT.box 0).f 2; have c3 := (HT.box 0).c 3; have f3 := (HT.box 0).f 3; have c4 := (HT.box 0).c 4; have f4 := (HT.box 0).f 4; have c5 := (HT.box 0).c 5; have f5 := (HT.box 0).f 5; have c6 := (HT.box 0).c 6; have f6 := (HT.box 0).f 6; have c7 := (HT.box 0).c 7; have f7 := (HT.box 0).f 7; have c8 := (HT.box 0).c 8; have f8 := (HT.box 0).f 8; have c9 := (HT.box 0).c 9; have f9 := (HT.box 0).f 9; have c10 := (HT.box 0).c 10; have f10 := (HT.box 0).f 10; have c11 := (HT.box 0).c 11; have f11 := (HT.box 0).f 11))
        all_goals
          go_wp2_with fail
          go_roundw
          case rel => exact ⟨m - 1, 2, by omega, by omega, by omega, rfl, HT.putM (by omega) (by simp <;> omega) (.int .i64 (-16)) (.int .i64 0) (.int .i64 0) (.int .i64 0) (.int .i64 16) (.int .i64 0) (.int .i64 0) (.int .i64 0) (.int .i64 (-16))⟩
          case measure => simp [intOf]; omega
      · have HT : Held w wr ((k1, [.int .i64 (-16), .int .i64 0, .int .i64 0, .int .i64 0, .int .i64 16, .int .i64 0, .int .i64 0, .int .i64 0, .int .i64 (-16), .int .i64 0, .int .i64 0, .int .i64 0]) :: [(w.heap.size, [.int .i64 0, .int .i64 0, .int .i64 0, .int .i64 0, .int .i64 0, .int .i64 0, .int .i64 0, .int .i64 0, .int .i64 0, .int .i64 0, .int .i64 0, .int .i64 0])]) := HT
        have c0 := (HT.box 0).c 0
        have c1 := (HT.box 0).c 1
        have c2 := (HT.box 0).c 2
        have c3 := (HT.box 0).c 3
        have c4 := (HT.box 0).c 4
        have c5 := (HT.box 0).c 5
        have c6 := (HT.box 0).c 6
        have c7 := (HT.box 0).c 7
        have c8 := (HT.box 0).c 8
        have c9 := (HT.box 0).c 9
        have c10 := (HT.box 0).c 10
        have c11 := (HT.box 0).c 11
        have f0 := (HT.box 0).f 0
        have f1 := (HT.box 0).f 1
        have f2 := (HT.box 0).f 2
        have f3 := (HT.box 0).f 3
        have f4 := (HT.box 0).f 4
        have f5 := (HT.box 0).f 5
        have f6 := (HT.box 0).f 6
        have f7 := (HT.box 0).f 7
        have f8 := (HT.box 0).f 8
        have f9 := (HT.box 0).f 9
        have f10 := (HT.box 0).f 10
        have f11 := (HT.box 0).f 11
        go_wp2_with fail
        go_region_with (first | (go_at_call 95; refine (l04Quarter_1 _).mono ?_; rintro e w1 ⟨rfl, hb1⟩; (first | (have HT := HT.later hb1) | (have HT := HT.drew.later hb1)); have c0 := (HT.box 0).c 0; have f0 := (HT.box 0).f 0; have c1 := (HT.box 0).c 1; have f1 := (HT.box 0).f 1; have c2 := (HT.box 0).c 2; have f2 := (HT.box 0).f 2; have c3 := (HT.box 0).c 3; have f3 := (HT.box 0).f 3; have c4 := (HT.box 0).c 4; have f4 := (HT.box 0).f 4; have c5 := (HT.box 0).c 5; have f5 := (HT.box 0).f 5; have c6 := (HT.box 0).c 6; have f6 := (HT.box 0).f 6; have c7 := (HT.box 0).c 7; have f7 := (HT.box 0).f 7; have c8 := (HT.box 0).c 8; have f8 := (HT.box 0).f 8; have c9 := (HT.box 0).c 9; have f9 := (HT.box 0).f 9; have c10 := (HT.box 0).c 10; have f10 := (HT.box 0).f 10; have c11 := (HT.box 0).c 11; have f11 := (HT.box 0).f 11) | (go_at_call 94; refine (mulQ_1_2 _).mono ?_; rintro e w1 ⟨rfl, hb1⟩; (first | (have HT := HT.later hb1) | (have HT := HT.drew.later hb1)); have c0 := (HT.box 0).c 0; have f0 := (HT.box 0).f 0; have c1 := (HT.box 0).c 1; have f1 := (HT.box 0).f 1; have c2 := (HT.box 0).c 2; have f2 := (HT.box 0).f 2; have c3 := (HT.box 0).c 3; have f3 := (HT.box 0).f 3; have c4 := (HT.box 0).c 4; have f4 := (HT.box 0).f 4; have c5 := (HT.box 0).c 5; have f5 := (HT.box 0).f 5; have c6 := (HT.box 0).c 6; have f6 := (HT.box 0).f 6; have c7 := (HT.box 0).c 7; have f7 := (HT.box 0).f 7; have c8 := (HT.box 0).c 8; have f8 := (HT.box 0).f 8; have c9 := (HT.box 0).c 9; have f9 := (HT.box 0).f 9; have c10 := (HT.box 0).c 10; have f10 := (HT.box 0).f 10; have c11 := (HT.box 0).c 11; have f11 := (HT.box 0).f 11))
        all_goals
          go_wp2_with fail
          go_roundw
          case rel => exact ⟨m - 1, 3, by omega, by omega, by omega, rfl, HT.putM (by omega) (by simp <;> omega) (.int .i64 0) (.int .i64 0) (.int .i64 (-16)) (.int .i64 0) (.int .i64 16) (.int .i64 0) (.int .i64 16) (.int .i64 0) (.int .i64 0)⟩
          case measure => simp [intOf]; omega
    · have hm00 : m = 0 := by omega
      subst hm00
      clear hm0 hm
      have ht3 : t = 0 ∨ t = 1 ∨ t = 2 ∨ t = 3 := by omega
      clear ht
      rcases ht3 with rfl | rfl | rfl | rfl
      · have HT : Held w wr ((k1, [.int .i64 16, .int .i64 0, .int .i64 0, .int .i64 0, .int .i64 16, .int .i64 0, .int .i64 0, .int .i64 0, .int .i64 16, .int .i64 0, .int .i64 0, .int .i64 0]) :: [(w.heap.size, [.int .i64 0, .int .i64 0, .int .i64 0, .int .i64 0, .int .i64 0, .int .i64 0, .int .i64 0, .int .i64 0, .int .i64 0, .int .i64 0, .int .i64 0, .int .i64 0])]) := HT
        have c0 := (HT.box 0).c 0
        have c1 := (HT.box 0).c 1
        have c2 := (HT.box 0).c 2
        have c3 := (HT.box 0).c 3
        have c4 := (HT.box 0).c 4
        have c5 := (HT.box 0).c 5
        have c6 := (HT.box 0).c 6
        have c7 := (HT.box 0).c 7
        have c8 := (HT.box 0).c 8
        have c9 := (HT.box 0).c 9
        have c10 := (HT.box 0).c 10
        have c11 := (HT.box 0).c 11
        have r0 := (HT.box 1).c 0
        have r1 := (HT.box 1).c 1
        have r2 := (HT.box 1).c 2
        have r3 := (HT.box 1).c 3
        have r4 := (HT.box 1).c 4
        have r5 := (HT.box 1).c 5
        have r6 := (HT.box 1).c 6
        have r7 := (HT.box 1).c 7
        have r8 := (HT.box 1).c 8
        have r9 := (HT.box 1).c 9
        have r10 := (HT.box 1).c 10
        have r11 := (HT.box 1).c 11
        have g0 := (HT.box 1).f 0
        have g1 := (HT.box 1).f 1
        have g2 := (HT.box 1).f 2
        have g3 := (HT.box 1).f 3
        have g4 := (HT.box 1).f 4
        have g5 := (HT.box 1).f 5
        have g6 := (HT.box 1).f 6
        have g7 := (HT.box 1).f 7
        have g8 := (HT.box 1).f 8
        have g9 := (HT.box 1).f 9
        have g10 := (HT.box 1).f 10
        have g11 := (HT.box 1).f 11
        have HW := HT.below
        clear HT
        have e : (k % 4).toNat = 0 := by omega
        clear hmt hj
        go_wp2_with fail
        exact bodyPost_ret (v := tr 16 0 0 0 16 0 0 0 16 0 0 0) (by simp [results, Tryd.results73, go_sem, r0, r1, r2, r3, r4, r5, r6, r7, r8, r9, r10, r11]) rfl ⟨by rw [e]; rfl, bset_far12 HW (by omega)⟩
      · have HT : Held w wr ((k1, [.int .i64 0, .int .i64 0, .int .i64 16, .int .i64 0, .int .i64 16, .int .i64 0, .int .i64 (-16), .int .i64 0, .int .i64 0, .int .i64 0, .int .i64 0, .int .i64 0]) :: [(w.heap.size, [.int .i64 0, .int .i64 0, .int .i64 0, .int .i64 0, .int .i64 0, .int .i64 0, .int .i64 0, .int .i64 0, .int .i64 0, .int .i64 0, .int .i64 0, .int .i64 0])]) := HT
        have c0 := (HT.box 0).c 0
        have c1 := (HT.box 0).c 1
        have c2 := (HT.box 0).c 2
        have c3 := (HT.box 0).c 3
        have c4 := (HT.box 0).c 4
        have c5 := (HT.box 0).c 5
        have c6 := (HT.box 0).c 6
        have c7 := (HT.box 0).c 7
        have c8 := (HT.box 0).c 8
        have c9 := (HT.box 0).c 9
        have c10 := (HT.box 0).c 10
        have c11 := (HT.box 0).c 11
        have r0 := (HT.box 1).c 0
        have r1 := (HT.box 1).c 1
        have r2 := (HT.box 1).c 2
        have r3 := (HT.box 1).c 3
        have r4 := (HT.box 1).c 4
        have r5 := (HT.box 1).c 5
        have r6 := (HT.box 1).c 6
        have r7 := (HT.box 1).c 7
        have r8 := (HT.box 1).c 8
        have r9 := (HT.box 1).c 9
        have r10 := (HT.box 1).c 10
        have r11 := (HT.box 1).c 11
        have g0 := (HT.box 1).f 0
        have g1 := (HT.box 1).f 1
        have g2 := (HT.box 1).f 2
        have g3 := (HT.box 1).f 3
        have g4 := (HT.box 1).f 4
        have g5 := (HT.box 1).f 5
        have g6 := (HT.box 1).f 6
        have g7 := (HT.box 1).f 7
        have g8 := (HT.box 1).f 8
        have g9 := (HT.box 1).f 9
        have g10 := (HT.box 1).f 10
        have g11 := (HT.box 1).f 11
        have HW := HT.below
        clear HT
        have e : (k % 4).toNat = 1 := by omega
        clear hmt hj
        go_wp2_with fail
        exact bodyPost_ret (v := tr 0 0 16 0 16 0 (-16) 0 0 0 0 0) (by simp [results, Tryd.results73, go_sem, r0, r1, r2, r3, r4, r5, r6, r7, r8, r9, r10, r11]) rfl ⟨by rw [e]; rfl, bset_far12 HW (by omega)⟩
      · have HT : Held w wr ((k1, [.int .i64 (-16), .int .i64 0, .int .i64 0, .int .i64 0, .int .i64 16, .int .i64 0, .int .i64 0, .int .i64 0, .int .i64 (-16), .int .i64 0, .int .i64 0, .int .i64 0]) :: [(w.heap.size, [.int .i64 0, .int .i64 0, .int .i64 0, .int .i64 0, .int .i64 0, .int .i64 0, .int .i64 0, .int .i64 0, .int .i64 0, .int .i64 0, .int .i64 0, .int .i64 0])]) := HT
        have c0 := (HT.box 0).c 0
        have c1 := (HT.box 0).c 1
        have c2 := (HT.box 0).c 2
        have c3 := (HT.box 0).c 3
        have c4 := (HT.box 0).c 4
        have c5 := (HT.box 0).c 5
        have c6 := (HT.box 0).c 6
        have c7 := (HT.box 0).c 7
        have c8 := (HT.box 0).c 8
        have c9 := (HT.box 0).c 9
        have c10 := (HT.box 0).c 10
        have c11 := (HT.box 0).c 11
        have r0 := (HT.box 1).c 0
        have r1 := (HT.box 1).c 1
        have r2 := (HT.box 1).c 2
        have r3 := (HT.box 1).c 3
        have r4 := (HT.box 1).c 4
        have r5 := (HT.box 1).c 5
        have r6 := (HT.box 1).c 6
        have r7 := (HT.box 1).c 7
        have r8 := (HT.box 1).c 8
        have r9 := (HT.box 1).c 9
        have r10 := (HT.box 1).c 10
        have r11 := (HT.box 1).c 11
        have g0 := (HT.box 1).f 0
        have g1 := (HT.box 1).f 1
        have g2 := (HT.box 1).f 2
        have g3 := (HT.box 1).f 3
        have g4 := (HT.box 1).f 4
        have g5 := (HT.box 1).f 5
        have g6 := (HT.box 1).f 6
        have g7 := (HT.box 1).f 7
        have g8 := (HT.box 1).f 8
        have g9 := (HT.box 1).f 9
        have g10 := (HT.box 1).f 10
        have g11 := (HT.box 1).f 11
        have HW := HT.below
        clear HT
        have e : (k % 4).toNat = 2 := by omega
        clear hmt hj
        go_wp2_with fail
        exact bodyPost_ret (v := tr (-16) 0 0 0 16 0 0 0 (-16) 0 0 0) (by simp [results, Tryd.results73, go_sem, r0, r1, r2, r3, r4, r5, r6, r7, r8, r9, r10, r11]) rfl ⟨by rw [e]; rfl, bset_far12 HW (by omega)⟩
      · have HT : Held w wr ((k1, [.int .i64 0, .int .i64 0, .int .i64 (-16), .int .i64 0, .int .i64 16, .int .i64 0, .int .i64 16, .int .i64 0, .int .i64 0, .int .i64 0, .int .i64 0, .int .i64 0]) :: [(w.heap.size, [.int .i64 0, .int .i64 0, .int .i64 0, .int .i64 0, .int .i64 0, .int .i64 0, .int .i64 0, .int .i64 0, .int .i64 0, .int .i64 0, .int .i64 0, .int .i64 0])]) := HT
        have c0 := (HT.box 0).c 0
        have c1 := (HT.box 0).c 1
        have c2 := (HT.box 0).c 2
        have c3 := (HT.box 0).c 3
        have c4 := (HT.box 0).c 4
        have c5 := (HT.box 0).c 5
        have c6 := (HT.box 0).c 6
        have c7 := (HT.box 0).c 7
        have c8 := (HT.box 0).c 8
        have c9 := (HT.box 0).c 9
        have c10 := (HT.box 0).c 10
        have c11 := (HT.box 0).c 11
        have r0 := (HT.box 1).c 0
        have r1 := (HT.box 1).c 1
        have r2 := (HT.box 1).c 2
        have r3 := (HT.box 1).c 3
        have r4 := (HT.box 1).c 4
        have r5 := (HT.box 1).c 5
        have r6 := (HT.box 1).c 6
        have r7 := (HT.box 1).c 7
        have r8 := (HT.box 1).c 8
        have r9 := (HT.box 1).c 9
        have r10 := (HT.box 1).c 10
        have r11 := (HT.box 1).c 11
        have g0 := (HT.box 1).f 0
        have g1 := (HT.box 1).f 1
        have g2 := (HT.box 1).f 2
        have g3 := (HT.box 1).f 3
        have g4 := (HT.box 1).f 4
        have g5 := (HT.box 1).f 5
        have g6 := (HT.box 1).f 6
        have g7 := (HT.box 1).f 7
        have g8 := (HT.box 1).f 8
        have g9 := (HT.box 1).f 9
        have g10 := (HT.box 1).f 10
        have g11 := (HT.box 1).f 11
        have HW := HT.below
        clear HT
        have e : (k % 4).toNat = 3 := by omega
        clear hmt hj
        go_wp2_with fail
        exact bodyPost_ret (v := tr 0 0 (-16) 0 16 0 16 0 0 0 0 0) (by simp [results, Tryd.results73, go_sem, r0, r1, r2, r3, r4, r5, r6, r7, r8, r9, r10, r11]) rfl ⟨by rw [e]; rfl, bset_far12 HW (by omega)⟩
end Go.Proofs.YtjflkapdnnecjaaDoor
