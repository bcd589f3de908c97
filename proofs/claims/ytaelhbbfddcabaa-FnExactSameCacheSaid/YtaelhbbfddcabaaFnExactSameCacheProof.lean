/-
  Proved: the law FnExactSameCache returns true for every input and its arguments read behind the call as they read before. Conditions: none of our own; those of the given row alone.
-/
import Derived.Test.YtaelhbbfddcabaaRows
import Derived.WalkKit
import Derived.ProofKit
import Derived.OpenShut
import Derived.ShutString
import Derived.SliceStrings
import Derived.ChangeOld
import Derived.Below
import Derived.Test.YtaelhbbfddcabaaMem
import Derived.Test.YtaelhbbfddcabaaInts
import Derived.Test.YtaelhbbfddcabaaFlat
import Derived.Test.YtaelhbbfddcabaaVbox
import Derived.Test.YtaelhbbfddcabaaHeld
import Derived.Test.YtaelhbbfddcabaaRowC
import Derived.Test.YtaelhbbfddcabaaKS
import Derived.Test.YtaelhbbfddcabaaStrS
import Derived.Test.YtaelhbbfddcabaaIntS
import Derived.Test.YtaelhbbfddcabaaSS
import Derived.Test.YtaelhbbfddcabaaPg
import Derived.Test.YtaelhbbfddcabaaVi
import Derived.Test.YtaelhbbfddcabaaVa
import Derived.Test.YtaelhbbfddcabaaVb
import Derived.Test.YtaelhbbfddcabaaVc
import Derived.Test.YtaelhbbfddcabaaVd
import Derived.Test.YtaelhbbfddcabaaVe
import Derived.Test.YtaelhbbfddcabaaVf
import Derived.Test.YtaelhbbfddcabaaVg
import Derived.Test.YtaelhbbfddcabaaVh
import Derived.Test.YtaelhbbfddcabaaWa
import Derived.Test.YtaelhbbfddcabaaWb
import Derived.Test.YtaelhbbfddcabaaWc
import Derived.Test.YtaelhbbfddcabaaWd
import Derived.Test.YtaelhbbfddcabaaWe
import Derived.Test.YtaelhbbfddcabaaWf
import Derived.Test.YtaelhbbfddcabaaWg
import Derived.Test.YtaelhbbfddcabaaWh
import Derived.Test.YtaelhbbfddcabaaWm
import Derived.Test.YtaelhbbfddcabaaWn
import Derived.Deep.RegionHeld3
import Derived.Deep.DeepCutAuto
import Derived.Handy
namespace Go.Proofs.Ytaelhbbfddcabaa.fnExactSameCache
open Go.ChangeShapes Go.WideShapes Go.ChangeAt Go.RowKit
open Go.ChangeMaps (open_string shut_string)
set_option linter.unusedVariables false

theorem own : ownKnob Try.prog.godebug = none := by kernel_rfl
theorem laidOut : laidOutB Try.prog = true := by kernel_rfl
theorem flat3 : FlatI Try.prog 3 (Try.prog.cellsOf 3) := by rw [show Try.prog.cellsOf 3 = 1 by kernel_rfl]; exact flat1 Try.underlying3
theorem cells60 : Try.prog.cellsOf 60 = 3 := by kernel_rfl
theorem flat60_ : FlatI Try.prog 60 3 := flatS Try.underlying60 cells60 (by exact ⟨by kernel_rfl, flat3, ⟨by kernel_rfl, flat3, ⟨by kernel_rfl, flat3, by unfold FlatFs; kernel_rfl⟩⟩⟩)
theorem rowC_drew {W : World} {A : Option Addr} {xs : List V3} (h : RowC 3 vg W W.heap.size A xs) : RowC 3 vg W.drew W.drew.heap.size A xs := h.keep fun _ _ => rfl
set_option maxRecDepth 100000 in
set_option maxHeartbeats 8000000 in
theorem walk (w : World) (l0 : Int) (w0 : (Lit.int .i64 l0).wf = true) (a0 : Option Addr) (c0 : Nat) (x0 : List V3) (r0 : RowC 3 vg w w.heap.size a0 x0) (m0 : x0.length ≤ maxLen) (q0 : ∀ z ∈ x0, wf3 z) (b0 : Int) (u0 : (Lit.int .i64 b0).wf = true) (l1 : Int) (w1 : (Lit.int .i64 l1).wf = true) (a1 : Option Addr) (c1 : Nat) (x1 : List V3) (r1 : RowC 3 vg w w.heap.size a1 x1) (m1 : x1.length ≤ maxLen) (q1 : ∀ z ∈ x1, wf3 z) (b1 : Int) (u1 : (Lit.int .i64 b1).wf = true) :
    Calls Try.prog 10 #[.agg #[.int .i64 l0, .slice a0 x0.length c0, .int .i64 b0], .agg #[.int .i64 l1, .slice a1 x1.length c1, .int .i64 b1]] w fun e w' => e = .returned (.bool true) ∧ Below w.heap.size w w' := by
  have HIN0 := Lib.hid r0
  have HMX0 := Lib.hid m0
  have HIN1 := Lib.hid r1
  have HMX1 := Lib.hid m1
  clear r0 m0 u0 w0 r1 m1 u1 w1 q0 q1
  have HT : Held w ((w.alloc (.cells #[.int .i64 l0, .slice a0 x0.length c0, .int .i64 b0] 43)).alloc (.cells #[.int .i64 l1, .slice a1 x1.length c1, .int .i64 b1] 43)) [(w.heap.size + 1, [.int .i64 l1, .slice a1 x1.length c1, .int .i64 b1]), (w.heap.size, [.int .i64 l0, .slice a0 x0.length c0, .int .i64 b0])] := by
    have h := ((Held.nil w).new #[.int .i64 l0, .slice a0 x0.length c0, .int .i64 b0] 43).new #[.int .i64 l1, .slice a1 x1.length c1, .int .i64 b1] 43
    simpa only [World.size_alloc] using h
  obtain ⟨W1, hW1⟩ : ∃ W, W = (w.alloc (.cells #[.int .i64 l0, .slice a0 x0.length c0, .int .i64 b0] 43)).alloc (.cells #[.int .i64 l1, .slice a1 x1.length c1, .int .i64 b1] 43) := ⟨_, rfl⟩
  rw [← hW1] at HT
  have HI0 := Lib.hid (fun W (h : Below w.heap.size w W) => (HIN0.out.below h).more h.size)
  have HI1 := Lib.hid (fun W (h : Below w.heap.size w W) => (HIN1.out.below h).more h.size)
  have HS0 := Lib.hid (szCache_any l0 a0 c0 x0 b0 1048576 W1 (by omega) (by have := HMX0.out; unfold maxLen at this; omega))
  go_enter Try.func10, Try.ntmps10
  go_upto_region 2 with fail
  rw [← hW1]
  obtain ⟨k1, hk1⟩ : ∃ k, k = w.heap.size + 1 := ⟨_, rfl⟩
  obtain ⟨k0, hk0⟩ : ∃ k, k = w.heap.size := ⟨_, rfl⟩
  rw [← hk1, ← hk0] at HT
  rw [← hk1, ← hk0]
  have HKK := Lib.hid (And.intro hk0 hk1)
  have m0 := (HT.box 1).c 0
  have m1 := (HT.box 1).c 1
  have m2 := (HT.box 1).c 2
  clear hW1 hk1 hk0
  go_wp2_with fail
  refine HS0.out.mono ?_
  rintro e w1 ⟨hb1, hc⟩
  have HT := HT.later hb1
  clear hb1 HS0 m0 m1 m2
  rcases hc with ⟨hfit, rfl⟩ | ⟨hfit, rfl⟩
  · obtain ⟨q, hq⟩ : ∃ q : Nat, q = 1048576 - x0.length := ⟨_, rfl⟩
    have hl0 : x0.length ≤ 1048576 := hfit
    have hq0 : ¬ ((q : Nat) : Int) < 0 := by omega
    have HS1 := Lib.hid (szCache_any l1 a1 c1 x1 b1 q w1 (by omega) (by have := HMX1.out; unfold maxLen at this; omega))
    have HQB := Lib.hid (show q ≤ 1048576 by omega)
    rw [← hq]
    have m0 := (HT.box 0).c 0
    have m1 := (HT.box 0).c 1
    have m2 := (HT.box 0).c 2
    have HL0 := Lib.hid hl0
    clear hq hfit hl0
    go_wp2_with fail
    refine HS1.out.mono ?_
    rintro e w2 ⟨hb2, hc⟩
    have HT := HT.later hb2
    clear hb2 HS1 m0 m1 m2
    rcases hc with ⟨hfit, rfl⟩ | ⟨hfit, rfl⟩
    · obtain ⟨p, hp⟩ : ∃ p : Nat, p = q - x1.length := ⟨_, rfl⟩
      have hp0 : ¬ ((p : Nat) : Int) < 0 := by omega
      rw [← hp]
      have HLEN := Lib.hid (show x0.length ≤ 1048576 ∧ x1.length ≤ 1048576 by have h1 := HL0.out; have h2 := HQB.out; omega)
      clear hp hfit
      obtain ⟨ans, hans⟩ : ∃ ans, ans = sameCP l0 x0 b0 l1 x1 b1 := ⟨_, rfl⟩
      have HSV := Lib.hid (fun W A A' c c' (h : RowC 3 vg W W.heap.size A x0) (h' : RowC 3 vg W W.heap.size A' x1) => sSameC_any l0 A c x0 b0 l1 A' c' x1 b1 W h h' (by have := HLEN.out; omega) (by have := HLEN.out; omega))
      have HIV := Lib.hid (fun W A A' (h : RowC 3 vg W W.heap.size A x0) (h' : RowC 3 vg W W.heap.size A' x1) => sameC_any l0 A x0.length x0 b0 l1 A' x1.length x1 b1 W h h' (by have := HLEN.out; omega) (by have := HLEN.out; omega))
      rw [← hans] at HSV HIV
      have TC0 := Lib.hid (fun W (h : RowC 3 vg W W.heap.size a0 x0) => toCache_own l0 a0 c0 x0 b0 W h (by have := HLEN.out; omega))
      have TC1 := Lib.hid (fun W (h : RowC 3 vg W W.heap.size a1 x1) => toCache_own l1 a1 c1 x1 b1 W h (by have := HLEN.out; omega))
      have HC : ∀ W', Held w W' [(k1, [.int .i64 l1, .slice a1 x1.length c1, .int .i64 b1]), (k0, [.int .i64 l0, .slice a0 x0.length c0, .int .i64 b0])] → (W'.cell? ⟨k1, 0, none⟩ = some (.int .i64 l1) ∧ W'.cell? ⟨k1, 1, none⟩ = some (.slice a1 x1.length c1) ∧ W'.cell? ⟨k1, 2, none⟩ = some (.int .i64 b1) ∧ W'.cell? ⟨k0, 0, none⟩ = some (.int .i64 l0) ∧ W'.cell? ⟨k0, 1, none⟩ = some (.slice a0 x0.length c0) ∧ W'.cell? ⟨k0, 2, none⟩ = some (.int .i64 b0)) := fun W' h => ⟨(h.box 0).c 0, (h.box 0).c 1, (h.box 0).c 2, (h.box 1).c 0, (h.box 1).c 1, (h.box 1).c 2⟩
      clear hans
      go_upto_region 8 with fail
      go_cut [6] (fun yv wx => yv = .bool ans ∧ Held w wx [(k1, [.int .i64 l1, .slice a1 x1.length c1, .int .i64 b1]), (k0, [.int .i64 l0, .slice a0 x0.length c0, .int .i64 b0])])
      case first =>
        go_region_held3 (fun W' => W'.cell? ⟨k1, 0, none⟩ = some (.int .i64 l1) ∧ W'.cell? ⟨k1, 1, none⟩ = some (.slice a1 x1.length c1) ∧ W'.cell? ⟨k1, 2, none⟩ = some (.int .i64 b1) ∧ W'.cell? ⟨k0, 0, none⟩ = some (.int .i64 l0) ∧ W'.cell? ⟨k0, 1, none⟩ = some (.slice a0 x0.length c0) ∧ W'.cell? ⟨k0, 2, none⟩ = some (.int .i64 b0))
          (first | (with_reducible exact HC _ HT) | (with_reducible exact HC _ HT.drew))
          (first | (go_at_call 24; (with_reducible refine (TC0.out _ (by first | with_reducible exact HI0.out _ HT.below | with_reducible exact HI0.out _ HT.drew.below)).mono ?_); rintro e w1 ⟨g6, rfl, _, ho6, hb1⟩; have HRA := (RowC.of_own vg_len ho6 rfl : RowC 3 vg w1 w1.heap.size (some ⟨g6, 0, none⟩) x0); clear ho6; (first | (have HT := HT.later hb1) | (have HT := HT.drew.later hb1))) | (go_at_call 24; (with_reducible refine (TC1.out _ (by first | with_reducible exact HI1.out _ HT.below | with_reducible exact HI1.out _ HT.drew.below)).mono ?_); rintro e w1 ⟨g6, rfl, _, ho6, hb1⟩; (first | (have HRA := HRA.later hb1) | (have HRA := (rowC_drew HRA).later hb1)); have HRB := (RowC.of_own vg_len ho6 rfl : RowC 3 vg w1 w1.heap.size (some ⟨g6, 0, none⟩) x1); clear ho6; (first | (have HT := HT.later hb1) | (have HT := HT.drew.later hb1))) | (go_at_call 41; (with_reducible refine (HSV.out _ _ _ _ _ (by first | with_reducible exact HRA | with_reducible exact rowC_drew HRA) (by first | with_reducible exact HRB | with_reducible exact rowC_drew HRB)).mono ?_); rintro e w1 ⟨rfl, hb1⟩; (first | (have HT := HT.later hb1) | (have HT := HT.drew.later hb1))))
        all_goals (go_wp2_with fail; go_meet)
        all_goals (first | exact ⟨rfl, HT⟩ | exact ⟨rfl, HT.drew⟩)
      case rest =>
        clear HC HT
        obtain ⟨rfl, HT⟩ := hcut
        have m0 := (HT.box 1).c 0
        have m1 := (HT.box 1).c 1
        have m2 := (HT.box 1).c 2
        go_wp2_with fail
        refine (TC0.out _ (HI0.out _ HT.below)).mono ?_
        rintro e w4 ⟨g4, rfl, _, ho4, hb4⟩
        have HT := (HT.later hb4).new #[.int .i64 l0, .slice (some ⟨g4, 0, none⟩) x0.length x0.length, .int .i64 b0] 29
        have hbx : Below w4.heap.size w4 (w4.alloc (.cells #[.int .i64 l0, .slice (some ⟨g4, 0, none⟩) x0.length x0.length, .int .i64 b0] 29)) := by go_grown
        have HXA := (RowC.of_own vg_len ho4 rfl : RowC 3 vg w4 w4.heap.size (some ⟨g4, 0, none⟩) x0).later hbx
        obtain ⟨X0, hX0⟩ : ∃ k, k = w4.heap.size := ⟨_, rfl⟩
        clear hb4 ho4 hbx m0 m1 m2
        go_upto_region 10 with fail
        obtain ⟨wX, hwX⟩ : ∃ W, W = w4.alloc (.cells #[.int .i64 l0, .slice (some ⟨g4, 0, none⟩) x0.length x0.length, .int .i64 b0] 29) := ⟨_, rfl⟩
        rw [← hwX] at HT HXA ⊢
        rw [← hX0] at HT ⊢
        have m0 := (HT.box 1).c 0
        have m1 := (HT.box 1).c 1
        have m2 := (HT.box 1).c 2
        clear hX0 hwX
        go_wp2_with fail
        refine (TC1.out _ (HI1.out _ HT.below)).mono ?_
        rintro e w5 ⟨g5, rfl, _, ho5, hb5⟩
        have HT := (HT.later hb5).new #[.int .i64 l1, .slice (some ⟨g5, 0, none⟩) x1.length x1.length, .int .i64 b1] 29
        have hbx : Below w5.heap.size w5 (w5.alloc (.cells #[.int .i64 l1, .slice (some ⟨g5, 0, none⟩) x1.length x1.length, .int .i64 b1] 29)) := by go_grown
        have HXB := (RowC.of_own vg_len ho5 rfl : RowC 3 vg w5 w5.heap.size (some ⟨g5, 0, none⟩) x1).later hbx
        have HXA := (HXA.later hb5).later hbx
        obtain ⟨X1, hX1⟩ : ∃ k, k = w5.heap.size := ⟨_, rfl⟩
        clear hb5 ho5 hbx m0 m1 m2
        go_upto_region 11 with fail
        obtain ⟨wY, hwY⟩ : ∃ W, W = w5.alloc (.cells #[.int .i64 l1, .slice (some ⟨g5, 0, none⟩) x1.length x1.length, .int .i64 b1] 29) := ⟨_, rfl⟩
        rw [← hwY] at HT HXA HXB ⊢
        rw [← hX1] at HT ⊢
        have m0 := (HT.box 0).c 0
        have m1 := (HT.box 0).c 1
        have m2 := (HT.box 0).c 2
        have n0 := (HT.box 1).c 0
        have n1 := (HT.box 1).c 1
        have n2 := (HT.box 1).c 2
        clear hX1 hwY
        go_wp2_with fail
        refine (HIV.out _ _ _ HXA HXB).mono ?_
        rintro e w6 ⟨rfl, hb6⟩
        have HT := HT.later hb6
        have HX0 := Lib.hid (HXA.later hb6)
        have HX1 := Lib.hid (HXB.later hb6)
        obtain ⟨wr9, hwr9⟩ : ∃ W, W = w6 := ⟨_, rfl⟩
        rw [← hwr9] at HT HX0 HX1 ⊢
        clear hb6 HXA HXB m0 m1 m2 n0 n1 n2 hwr9 HSV HIV
        have HHI0 : Hid (∀ W, Below wr9.heap.size wr9 W → RowC 3 vg W W.heap.size a0 x0) := Lib.hid (fun W h => HI0.out W (HT.below.trans (h.mono HT.size)))
        have HHI1 : Hid (∀ W, Below w.heap.size w W → RowC 3 vg W W.heap.size a1 x1) := HI1
        cases ans
        all_goals
          have HQ : Held wr9 wr9 [(X0, [.int .i64 l0, .slice (some ⟨g4, 0, none⟩) x0.length x0.length, .int .i64 b0]), (k0, [.int .i64 l0, .slice a0 x0.length c0, .int .i64 b0])] := ⟨Below.refl _ _, (HT.pick (cs := [(X0, [.int .i64 l0, .slice (some ⟨g4, 0, none⟩) x0.length x0.length, .int .i64 b0]), (k0, [.int .i64 l0, .slice a0 x0.length c0, .int .i64 b0])]) (by simp)).2⟩
          have HCE : ∀ w0 W' : World, Held w0 W' [(X0, [.int .i64 l0, .slice (some ⟨g4, 0, none⟩) x0.length x0.length, .int .i64 b0]), (k0, [.int .i64 l0, .slice a0 x0.length c0, .int .i64 b0])] → (W'.cell? ⟨X0, 0, none⟩ = some (.int .i64 l0) ∧ W'.cell? ⟨X0, 1, none⟩ = some (.slice (some ⟨g4, 0, none⟩) x0.length x0.length) ∧ W'.cell? ⟨X0, 2, none⟩ = some (.int .i64 b0) ∧ W'.cell? ⟨k0, 0, none⟩ = some (.int .i64 l0) ∧ W'.cell? ⟨k0, 1, none⟩ = some (.slice a0 x0.length c0) ∧ W'.cell? ⟨k0, 2, none⟩ = some (.int .i64 b0)) := fun w0 W' h => ⟨(h.box 0).c 0, (h.box 0).c 1, (h.box 0).c 2, (h.box 1).c 0, (h.box 1).c 1, (h.box 1).c 2⟩
          have HXE := HX0.out
          go_upto_region 14 with fail
          go_cut [39] (fun z wx => z = .bool false ∧ Below wr9.heap.size wr9 wx)
          case first =>
            clear HT
            go_region_held3 (fun W' => W'.cell? ⟨X0, 0, none⟩ = some (.int .i64 l0) ∧ W'.cell? ⟨X0, 1, none⟩ = some (.slice (some ⟨g4, 0, none⟩) x0.length x0.length) ∧ W'.cell? ⟨X0, 2, none⟩ = some (.int .i64 b0) ∧ W'.cell? ⟨k0, 0, none⟩ = some (.int .i64 l0) ∧ W'.cell? ⟨k0, 1, none⟩ = some (.slice a0 x0.length c0) ∧ W'.cell? ⟨k0, 2, none⟩ = some (.int .i64 b0))
              (first | (with_reducible exact HCE _ _ HQ) | (with_reducible exact HCE _ _ HQ.drew))
              (first | (go_at_call 24; (with_reducible refine (TC0.out _ (by first | with_reducible exact (HHI0.out _ HQ.below) | with_reducible exact (HHI0.out _ HQ.drew.below))).mono ?_); rintro e w1 ⟨g6, rfl, _, ho6, hb1⟩; have hm6 := (RowC.of_own vg_len ho6 rfl : RowC 3 vg w1 w1.heap.size (some ⟨g6, 0, none⟩) x0); clear ho6; (first | (have HXE := HXE.later hb1) | (have HXE := (rowC_drew HXE).later hb1)); (first | (have HQ := HQ.later hb1) | (have HQ := HQ.drew.later hb1))) | (go_at_call 19; refine (eqCache_same l0 _ _ _ _ x0 b0 _ (by first | with_reducible exact HXE | with_reducible exact rowC_drew HXE) (by first | with_reducible exact hm6 | with_reducible exact rowC_drew hm6) (by have := HLEN.out; omega)).mono ?_; rintro e w1 ⟨rfl, hb1⟩; (first | (have HQ := HQ.later hb1) | (have HQ := HQ.drew.later hb1))))
            all_goals (go_wp2_with fail; go_meet)
            all_goals (first | with_reducible exact ⟨rfl, HQ.below⟩ | with_reducible exact ⟨rfl, HQ.drew.below⟩)
          case rest =>
            clear HQ HCE HXE
            obtain ⟨rfl, hb7⟩ := hcut
            have HT := HT.later hb7
            have HX1 := Lib.hid (HX1.out.later hb7)
            clear hb7
            have HHI1 : Hid (∀ W, Below wc.heap.size wc W → RowC 3 vg W W.heap.size a1 x1) := Lib.hid (fun W h => HI1.out W (HT.below.trans (h.mono HT.size)))
            have HQ : Held wc wc [(X1, [.int .i64 l1, .slice (some ⟨g5, 0, none⟩) x1.length x1.length, .int .i64 b1]), (k1, [.int .i64 l1, .slice a1 x1.length c1, .int .i64 b1])] := ⟨Below.refl _ _, (HT.pick (cs := [(X1, [.int .i64 l1, .slice (some ⟨g5, 0, none⟩) x1.length x1.length, .int .i64 b1]), (k1, [.int .i64 l1, .slice a1 x1.length c1, .int .i64 b1])]) (by simp)).2⟩
            have HCE : ∀ w0 W' : World, Held w0 W' [(X1, [.int .i64 l1, .slice (some ⟨g5, 0, none⟩) x1.length x1.length, .int .i64 b1]), (k1, [.int .i64 l1, .slice a1 x1.length c1, .int .i64 b1])] → (W'.cell? ⟨X1, 0, none⟩ = some (.int .i64 l1) ∧ W'.cell? ⟨X1, 1, none⟩ = some (.slice (some ⟨g5, 0, none⟩) x1.length x1.length) ∧ W'.cell? ⟨X1, 2, none⟩ = some (.int .i64 b1) ∧ W'.cell? ⟨k1, 0, none⟩ = some (.int .i64 l1) ∧ W'.cell? ⟨k1, 1, none⟩ = some (.slice a1 x1.length c1) ∧ W'.cell? ⟨k1, 2, none⟩ = some (.int .i64 b1)) := fun w0 W' h => ⟨(h.box 0).c 0, (h.box 0).c 1, (h.box 0).c 2, (h.box 1).c 0, (h.box 1).c 1, (h.box 1).c 2⟩
            have HXE := HX1.out
            go_upto_region 16 with fail
            go_cut [44] (fun z wx => z = .bool false ∧ Below wc.heap.size wc wx)
            case first =>
              clear HT
              go_region_held3 (fun W' => W'.cell? ⟨X1, 0, none⟩ = some (.int .i64 l1) ∧ W'.cell? ⟨X1, 1, none⟩ = some (.slice (some ⟨g5, 0, none⟩) x1.length x1.length) ∧ W'.cell? ⟨X1, 2, none⟩ = some (.int .i64 b1) ∧ W'.cell? ⟨k1, 0, none⟩ = some (.int .i64 l1) ∧ W'.cell? ⟨k1, 1, none⟩ = some (.slice a1 x1.length c1) ∧ W'.cell? ⟨k1, 2, none⟩ = some (.int .i64 b1))
                (first | (with_reducible exact HCE _ _ HQ) | (with_reducible exact HCE _ _ HQ.drew))
                (first | (go_at_call 24; (with_reducible refine (TC1.out _ (by first | with_reducible exact (HHI1.out _ HQ.below) | with_reducible exact (HHI1.out _ HQ.drew.below))).mono ?_); rintro e w1 ⟨g6, rfl, _, ho6, hb1⟩; have hm6 := (RowC.of_own vg_len ho6 rfl : RowC 3 vg w1 w1.heap.size (some ⟨g6, 0, none⟩) x1); clear ho6; (first | (have HXE := HXE.later hb1) | (have HXE := (rowC_drew HXE).later hb1)); (first | (have HQ := HQ.later hb1) | (have HQ := HQ.drew.later hb1))) | (go_at_call 19; refine (eqCache_same l1 _ _ _ _ x1 b1 _ (by first | with_reducible exact HXE | with_reducible exact rowC_drew HXE) (by first | with_reducible exact hm6 | with_reducible exact rowC_drew hm6) (by have := HLEN.out; omega)).mono ?_; rintro e w1 ⟨rfl, hb1⟩; (first | (have HQ := HQ.later hb1) | (have HQ := HQ.drew.later hb1))))
              all_goals (go_wp2_with fail; go_meet)
              all_goals (first | with_reducible exact ⟨rfl, HQ.below⟩ | with_reducible exact ⟨rfl, HQ.drew.below⟩)
            case rest =>
              clear HQ HCE HXE
              obtain ⟨rfl, hb7⟩ := hcut
              have HT := HT.later hb7
              clear hb7
              go_wp2_with fail
              go_ret
              exact ⟨rfl, HT.below⟩
    · clear hfit
      go_wp2_with fail
      go_ret
      exact ⟨rfl, HT.below⟩
  · clear hfit
    go_wp2_with fail
    go_ret
    exact ⟨rfl, HT.below⟩

set_option maxRecDepth 100000 in
theorem lifted (os : Os) (started : os.Started) (H : Type) (enc : TypeId × Value → H) :
    ReturnsInHanded {} Try.checked os 10 .any (Rows.fnExactSameCacheSpec.pre6 enc Try.prog Try.f10 Rows.fnExactSameCacheRow.domain false) (Rows.fnExactSameCacheSpec.post enc Try.prog Try.f10 false true false false) := by
  refine returnsInHanded_of_change (C := Try.checked) own started (by kernel_rfl) Try.func10
    (ChangeSpec.witness6 (enc := enc) (C := Try.checked) false ⟨#[], #[.agg #[.int .i64 0, .slice none 0 0, .int .i64 0], .agg #[.int .i64 0, .slice none 0 0, .int .i64 0]], []⟩ 8 (by kernel_rfl) (by kernel_rfl) (by kernel_rfl) (by kernel_rfl)) ?_
  intro W base args ds gs before hval0 hW hcnd _
  have hval : ∀ (j : Nat) t v, Try.f10.params[j]? = some t → args[j]? = some v → Value.okWide Try.prog W .any base t v := hval0
  have hW' := hW
  obtain ⟨p, q, hA0, hV, rfl, hfz, hnd⟩ := hW
  have hA : DataW.TrodAll enc Try.prog W 0 (fun _ => true) true Try.f10.params.toList args.toList ds p := hA0
  rw [Try.params10] at hA hval
  obtain ⟨v0, vs0, d0, ds0, p0, q0, hargs, rfl, rfl, h0, r1000⟩ := trodAll_cons hA
  obtain ⟨v1, vs1, d1, ds1, p1, q1, rfl, rfl, rfl, h1, r1001⟩ := trodAll_cons r1000
  obtain ⟨rfl, rfl, rfl⟩ := trodAll_nil r1001
  obtain rfl : args = #[v0, v1] := by cases args; simp_all
  obtain ⟨rfl, rfl⟩ := trodVars_none hV
  have k0 := h0
  have lt0 : ∀ x ∈ p0, x.block < W.heap.size := by obtain ⟨m, hm⟩ := k0; exact DataW.trod_lt m _ _ _ hm
  have hv0 := hval 0 43 v0 rfl rfl
  obtain ⟨s0, t0, y0, n0, X0, Y0, Z0, rfl, hs0, ht0, hy0⟩ := open_trio (P := Try.prog) (t := 43) Try.underlying43 (by kernel_rfl) rfl rfl rfl (by kernel_rfl) (by kernel_rfl) (by kernel_rfl) hv0 h0
  obtain ⟨l0, e0, _, w0⟩ := DataW.trod_int Try.underlying3 hs0
  simp at e0
  subst e0
  obtain ⟨b0, e0, _, u0⟩ := DataW.trod_int Try.underlying3 hy0
  simp at e0
  subst e0
  obtain ⟨a0, c0, x0, rfl, r0, m0, q0⟩ := rowCW_of _ vg wf3 vg_v3 wf3_v3 Try.underlying41 (by kernel_rfl) flat60_ (by omega) ht0
  have k1 := h1
  have lt1 : ∀ x ∈ p1, x.block < W.heap.size := by obtain ⟨m, hm⟩ := k1; exact DataW.trod_lt m _ _ _ hm
  have hv1 := hval 1 43 v1 rfl rfl
  obtain ⟨s1, t1, y1, n1, X1, Y1, Z1, rfl, hs1, ht1, hy1⟩ := open_trio (P := Try.prog) (t := 43) Try.underlying43 (by kernel_rfl) rfl rfl rfl (by kernel_rfl) (by kernel_rfl) (by kernel_rfl) hv1 h1
  obtain ⟨l1, e1, _, w1⟩ := DataW.trod_int Try.underlying3 hs1
  simp at e1
  subst e1
  obtain ⟨b1, e1, _, u1⟩ := DataW.trod_int Try.underlying3 hy1
  simp at e1
  subst e1
  obtain ⟨a1, c1, x1, rfl, r1, m1, q1⟩ := rowCW_of _ vg wf3 vg_v3 wf3_v3 Try.underlying41 (by kernel_rfl) flat60_ (by omega) ht1
  clear hA0
  refine (walk W l0 w0 a0 c0 x0 r0 m0 q0 b0 u0 l1 w1 a1 c1 x1 r1 m1 q1 b1 u1).mono fun e W' ⟨he, bel⟩ => ?_
  subst he
  exact ⟨_, rfl, _, _, _, [], _, [], hW', trodAll_mk1 (shut_bool Try.underlying4 _), (trodAll_cons_mk (Below.trod laidOut (by kernel_rfl) (of_decide_eq_true (by kernel_rfl)) k0 bel lt0) (trodAll_cons_mk (Below.trod laidOut (by kernel_rfl) (of_decide_eq_true (by kernel_rfl)) k1 bel lt1) trodAll_mk0)), rfl, bel.frame _, fun h => by cases h⟩

theorem proved : Rows.FnExactSameCacheSaid :=
  OpenClaim.holds_of_wide 10 Try.f10 rfl rfl rfl rfl rfl rfl rfl ⟨rfl, rfl, rfl, rfl, rfl⟩ rfl rfl rfl rfl rfl (by kernel_rfl) Try.func10 (by kernel_rfl)
    (of_decide_eq_true (by kernel_rfl)) (by unfold Func.isWrapper; first | (rw [if_pos (by decide +kernel)]; kernel_rfl) | (rw [if_neg (by decide +kernel)]; exact ⟨rfl, rfl⟩))
    (fun os started H enc _ => lifted os started H enc)
#print axioms proved
end Go.Proofs.Ytaelhbbfddcabaa.fnExactSameCache
