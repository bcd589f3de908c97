/-
  Proved: the law FnExactDiceCell returns true for every input and its arguments read behind the call as they read before. Conditions: none of our own; those of the given row alone.
-/
import Derived.Test.YtmhcpjednogegaaRows
import Derived.WalkKit
import Derived.ProofKit
import Derived.OpenShut
import Derived.ShutString
import Derived.SliceStrings
import Derived.ChangeOld
import Derived.Below
import Derived.Test.YtmhcpjednogegaaKV
import Derived.Test.YtmhcpjednogegaaFlat
import Derived.Test.YtmhcpjednogegaaVbox
import Derived.Test.YtmhcpjednogegaaVec
import Derived.Test.YtmhcpjednogegaaHeld
import Derived.Test.YtmhcpjednogegaaMem
import Derived.Test.YtmhcpjednogegaaRowC
import Derived.Test.YtmhcpjednogegaaArr
import Derived.Test.YtmhcpjednogegaaTr
import Derived.Test.YtmhcpjednogegaaCam
import Derived.Test.YtmhcpjednogegaaPat
import Derived.Test.YtmhcpjednogegaaPTo
import Derived.Test.YtmhcpjednogegaaSub
import Derived.Test.YtmhcpjednogegaaDv
import Derived.Test.YtmhcpjednogegaaDm
import Derived.Test.YtmhcpjednogegaaDe
import Derived.Test.YtmhcpjednogegaaDc
import Derived.Test.YtmhcpjednogegaaDs
import Derived.Deep.RegionHeld3
import Derived.Deep.DeepCutAuto
import Derived.Handy
namespace Go.Proofs.Ytmhcpjednogegaa.fnExactDiceCell
open Go.ChangeShapes Go.WideShapes Go.ChangeAt Go.RowKit
open Go.ChangeMaps (open_string shut_string)
set_option linter.unusedVariables false

theorem own : ownKnob Try.prog.godebug = none := by kernel_rfl
theorem laidOut : laidOutB Try.prog = true := by kernel_rfl
theorem flatK48_ : FlatK Try.prog 48 [false, false, false, false, true, false, false] := flatKS (ks := [[false], [false], [false], [false], [true], [false], [false]]) Try.underlying48 (n := 7) (by kernel_rfl) (by exact ⟨[false], _, rfl, by kernel_rfl, by kernel_rfl, flatK_int Try.underlying3, ⟨[false], _, rfl, by kernel_rfl, by kernel_rfl, flatK_int Try.underlying3, ⟨[false], _, rfl, by kernel_rfl, by kernel_rfl, flatK_int Try.underlying3, ⟨[false], _, rfl, by kernel_rfl, by kernel_rfl, flatK_int Try.underlying3, ⟨[true], _, rfl, by kernel_rfl, by kernel_rfl, flatK_bool Try.underlying4, ⟨[false], _, rfl, by kernel_rfl, by kernel_rfl, flatK_int Try.underlying3, ⟨[false], _, rfl, by kernel_rfl, by kernel_rfl, flatK_int Try.underlying3, ⟨rfl, by kernel_rfl⟩⟩⟩⟩⟩⟩⟩⟩)
theorem flat3 : FlatI Try.prog 3 (Try.prog.cellsOf 3) := by rw [show Try.prog.cellsOf 3 = 1 by kernel_rfl]; exact flat1 Try.underlying3
theorem cells49 : Try.prog.cellsOf 49 = 3 := by kernel_rfl
theorem flatE49 : FlatI Try.prog 49 3 := flatS Try.underlying49 cells49 (by exact ⟨by kernel_rfl, flat3, ⟨by kernel_rfl, flat3, ⟨by kernel_rfl, flat3, by unfold FlatFs; kernel_rfl⟩⟩⟩)
theorem cellsE49 : Try.prog.cellsOf 49 = 3 := by kernel_rfl
theorem cellsA50 : Try.prog.cellsOf 50 = 4 * 3 := by kernel_rfl
theorem flat50 : FlatI Try.prog 50 (Try.prog.cellsOf 50) := by rw [show Try.prog.cellsOf 50 = 12 by kernel_rfl]; exact flatA Try.underlying50 cellsA50 cellsE49 flatE49
theorem cells52 : Try.prog.cellsOf 52 = 12 := by kernel_rfl
theorem flat52_ : FlatI Try.prog 52 12 := flatS Try.underlying52 cells52 (by exact ⟨by kernel_rfl, flat50, by unfold FlatFs; kernel_rfl⟩)
set_option maxRecDepth 100000 in
set_option maxHeartbeats 8000000 in
theorem walk (w : World) (a0_0 : Int) (w0_0 : (Lit.int .i64 a0_0).wf = true) (a0_1 : Int) (w0_1 : (Lit.int .i64 a0_1).wf = true) (a0_2 : Int) (w0_2 : (Lit.int .i64 a0_2).wf = true) (a0_3 : Int) (w0_3 : (Lit.int .i64 a0_3).wf = true) (a0_4 : Bool) (a0_5 : Int) (w0_5 : (Lit.int .i64 a0_5).wf = true) (a0_6 : Int) (w0_6 : (Lit.int .i64 a0_6).wf = true) (a1_0 a1_1 a1_2 a1_3 a1_4 a1_5 a1_6 a1_7 a1_8 a1_9 a1_10 a1_11 : Int) (w1_0 : (Lit.int .i64 a1_0).wf = true) (w1_1 : (Lit.int .i64 a1_1).wf = true) (w1_2 : (Lit.int .i64 a1_2).wf = true) (w1_3 : (Lit.int .i64 a1_3).wf = true) (w1_4 : (Lit.int .i64 a1_4).wf = true) (w1_5 : (Lit.int .i64 a1_5).wf = true) (w1_6 : (Lit.int .i64 a1_6).wf = true) (w1_7 : (Lit.int .i64 a1_7).wf = true) (w1_8 : (Lit.int .i64 a1_8).wf = true) (w1_9 : (Lit.int .i64 a1_9).wf = true) (w1_10 : (Lit.int .i64 a1_10).wf = true) (w1_11 : (Lit.int .i64 a1_11).wf = true) (a2 : Int) (w2 : (Lit.int .i64 a2).wf = true) (a3 : Int) (w3 : (Lit.int .i64 a3).wf = true) (a4 : Int) (w4 : (Lit.int .i64 a4).wf = true) (a5 : Int) (w5 : (Lit.int .i64 a5).wf = true) (a6 : Int) (w6 : (Lit.int .i64 a6).wf = true) :
    Calls Try.prog 5 #[.agg #[.int .i64 a0_0, .int .i64 a0_1, .int .i64 a0_2, .int .i64 a0_3, .bool a0_4, .int .i64 a0_5, .int .i64 a0_6], .agg #[.int .i64 a1_0, .int .i64 a1_1, .int .i64 a1_2, .int .i64 a1_3, .int .i64 a1_4, .int .i64 a1_5, .int .i64 a1_6, .int .i64 a1_7, .int .i64 a1_8, .int .i64 a1_9, .int .i64 a1_10, .int .i64 a1_11], .int .i64 a2, .int .i64 a3, .int .i64 a4, .int .i64 a5, .int .i64 a6] w fun e w' => e = .returned (.bool true) ∧ Below w.heap.size w w' := by
  have HT : Held w ((w.alloc (.cells #[.int .i64 a0_0, .int .i64 a0_1, .int .i64 a0_2, .int .i64 a0_3, .bool a0_4, .int .i64 a0_5, .int .i64 a0_6] 48)).alloc (.cells #[.int .i64 a1_0, .int .i64 a1_1, .int .i64 a1_2, .int .i64 a1_3, .int .i64 a1_4, .int .i64 a1_5, .int .i64 a1_6, .int .i64 a1_7, .int .i64 a1_8, .int .i64 a1_9, .int .i64 a1_10, .int .i64 a1_11] 52)) [(w.heap.size + 1, [.int .i64 a1_0, .int .i64 a1_1, .int .i64 a1_2, .int .i64 a1_3, .int .i64 a1_4, .int .i64 a1_5, .int .i64 a1_6, .int .i64 a1_7, .int .i64 a1_8, .int .i64 a1_9, .int .i64 a1_10, .int .i64 a1_11]), (w.heap.size, [.int .i64 a0_0, .int .i64 a0_1, .int .i64 a0_2, .int .i64 a0_3, .bool a0_4, .int .i64 a0_5, .int .i64 a0_6])] := by
    have h := ((Held.nil w).new #[.int .i64 a0_0, .int .i64 a0_1, .int .i64 a0_2, .int .i64 a0_3, .bool a0_4, .int .i64 a0_5, .int .i64 a0_6] 48).new #[.int .i64 a1_0, .int .i64 a1_1, .int .i64 a1_2, .int .i64 a1_3, .int .i64 a1_4, .int .i64 a1_5, .int .i64 a1_6, .int .i64 a1_7, .int .i64 a1_8, .int .i64 a1_9, .int .i64 a1_10, .int .i64 a1_11] 52
    simpa only [World.size_alloc] using h
  obtain ⟨xs, hxs⟩ : ∃ xs, xs = cellL (⟨a0_0, a0_1, a0_2, a0_3, a0_4, a0_5, a0_6⟩ : CV) (⟨a1_0, a1_1, a1_2, a1_3, a1_4, a1_5, a1_6, a1_7, a1_8, a1_9, a1_10, a1_11⟩ : PV) a5 a6 a2 a3 a4 := ⟨_, rfl⟩
  have hlen : xs.length ≤ 2 := by rw [hxs]; exact cellL_len ..
  have HSA : Hid (∀ w : World, Calls Try.prog 19 #[cam a0_0 a0_1 a0_2 a0_3 a0_4 a0_5 a0_6, tr a1_0 a1_1 a1_2 a1_3 a1_4 a1_5 a1_6 a1_7 a1_8 a1_9 a1_10 a1_11, .int .i64 a2, .int .i64 a3, .int .i64 a4, .int .i64 a5, .int .i64 a6] w (MicOut xs w)) := Lib.hid (fun w => by rw [hxs]; exact sDiceCell_any (⟨a0_0, a0_1, a0_2, a0_3, a0_4, a0_5, a0_6⟩ : CV) (⟨a1_0, a1_1, a1_2, a1_3, a1_4, a1_5, a1_6, a1_7, a1_8, a1_9, a1_10, a1_11⟩ : PV) a2 a3 a4 a5 a6 w)
  have HIA : Hid (∀ w : World, Calls Try.prog 20 #[cam a0_0 a0_1 a0_2 a0_3 a0_4 a0_5 a0_6, tr a1_0 a1_1 a1_2 a1_3 a1_4 a1_5 a1_6 a1_7 a1_8 a1_9 a1_10 a1_11, .int .i64 a2, .int .i64 a3, .int .i64 a4, .int .i64 a5, .int .i64 a6] w (MicOut xs w)) := Lib.hid (fun w => by rw [hxs]; exact diceCell_any (⟨a0_0, a0_1, a0_2, a0_3, a0_4, a0_5, a0_6⟩ : CV) (⟨a1_0, a1_1, a1_2, a1_3, a1_4, a1_5, a1_6, a1_7, a1_8, a1_9, a1_10, a1_11⟩ : PV) a2 a3 a4 a5 a6 w)
  clear hxs
  have HC : ∀ W, Held w W [(w.heap.size + 1, [.int .i64 a1_0, .int .i64 a1_1, .int .i64 a1_2, .int .i64 a1_3, .int .i64 a1_4, .int .i64 a1_5, .int .i64 a1_6, .int .i64 a1_7, .int .i64 a1_8, .int .i64 a1_9, .int .i64 a1_10, .int .i64 a1_11]), (w.heap.size, [.int .i64 a0_0, .int .i64 a0_1, .int .i64 a0_2, .int .i64 a0_3, .bool a0_4, .int .i64 a0_5, .int .i64 a0_6])] → (W.cell? ⟨w.heap.size, 0, none⟩ = some (.int .i64 a0_0) ∧ W.cell? ⟨w.heap.size, 1, none⟩ = some (.int .i64 a0_1) ∧ W.cell? ⟨w.heap.size, 2, none⟩ = some (.int .i64 a0_2) ∧ W.cell? ⟨w.heap.size, 3, none⟩ = some (.int .i64 a0_3) ∧ W.cell? ⟨w.heap.size, 4, none⟩ = some (.bool a0_4) ∧ W.cell? ⟨w.heap.size, 5, none⟩ = some (.int .i64 a0_5) ∧ W.cell? ⟨w.heap.size, 6, none⟩ = some (.int .i64 a0_6) ∧ W.cell? ⟨w.heap.size + 1, 0, none⟩ = some (.int .i64 a1_0) ∧ W.cell? ⟨w.heap.size + 1, 1, none⟩ = some (.int .i64 a1_1) ∧ W.cell? ⟨w.heap.size + 1, 2, none⟩ = some (.int .i64 a1_2) ∧ W.cell? ⟨w.heap.size + 1, 3, none⟩ = some (.int .i64 a1_3) ∧ W.cell? ⟨w.heap.size + 1, 4, none⟩ = some (.int .i64 a1_4) ∧ W.cell? ⟨w.heap.size + 1, 5, none⟩ = some (.int .i64 a1_5) ∧ W.cell? ⟨w.heap.size + 1, 6, none⟩ = some (.int .i64 a1_6) ∧ W.cell? ⟨w.heap.size + 1, 7, none⟩ = some (.int .i64 a1_7) ∧ W.cell? ⟨w.heap.size + 1, 8, none⟩ = some (.int .i64 a1_8) ∧ W.cell? ⟨w.heap.size + 1, 9, none⟩ = some (.int .i64 a1_9) ∧ W.cell? ⟨w.heap.size + 1, 10, none⟩ = some (.int .i64 a1_10) ∧ W.cell? ⟨w.heap.size + 1, 11, none⟩ = some (.int .i64 a1_11)) := fun W h => ⟨(h.box 1).c 0, (h.box 1).c 1, (h.box 1).c 2, (h.box 1).c 3, (h.box 1).c 4, (h.box 1).c 5, (h.box 1).c 6, (h.box 0).c 0, (h.box 0).c 1, (h.box 0).c 2, (h.box 0).c 3, (h.box 0).c 4, (h.box 0).c 5, (h.box 0).c 6, (h.box 0).c 7, (h.box 0).c 8, (h.box 0).c 9, (h.box 0).c 10, (h.box 0).c 11⟩
  go_enter Try.func5, Try.ntmps5
  go_upto_region 1 with fail
  go_region_held3 (fun w' => w'.cell? ⟨w.heap.size, 0, none⟩ = some (.int .i64 a0_0) ∧ w'.cell? ⟨w.heap.size, 1, none⟩ = some (.int .i64 a0_1) ∧ w'.cell? ⟨w.heap.size, 2, none⟩ = some (.int .i64 a0_2) ∧ w'.cell? ⟨w.heap.size, 3, none⟩ = some (.int .i64 a0_3) ∧ w'.cell? ⟨w.heap.size, 4, none⟩ = some (.bool a0_4) ∧ w'.cell? ⟨w.heap.size, 5, none⟩ = some (.int .i64 a0_5) ∧ w'.cell? ⟨w.heap.size, 6, none⟩ = some (.int .i64 a0_6) ∧ w'.cell? ⟨w.heap.size + 1, 0, none⟩ = some (.int .i64 a1_0) ∧ w'.cell? ⟨w.heap.size + 1, 1, none⟩ = some (.int .i64 a1_1) ∧ w'.cell? ⟨w.heap.size + 1, 2, none⟩ = some (.int .i64 a1_2) ∧ w'.cell? ⟨w.heap.size + 1, 3, none⟩ = some (.int .i64 a1_3) ∧ w'.cell? ⟨w.heap.size + 1, 4, none⟩ = some (.int .i64 a1_4) ∧ w'.cell? ⟨w.heap.size + 1, 5, none⟩ = some (.int .i64 a1_5) ∧ w'.cell? ⟨w.heap.size + 1, 6, none⟩ = some (.int .i64 a1_6) ∧ w'.cell? ⟨w.heap.size + 1, 7, none⟩ = some (.int .i64 a1_7) ∧ w'.cell? ⟨w.heap.size + 1, 8, none⟩ = some (.int .i64 a1_8) ∧ w'.cell? ⟨w.heap.size + 1, 9, none⟩ = some (.int .i64 a1_9) ∧ w'.cell? ⟨w.heap.size + 1, 10, none⟩ = some (.int .i64 a1_10) ∧ w'.cell? ⟨w.heap.size + 1, 11, none⟩ = some (.int .i64 a1_11))
    (first | (with_reducible exact HC _ HT) | (with_reducible exact HC _ HT.drew))
    (first | (go_at_call 17; (with_reducible refine (toCamera_any _ _ _ _ _ _ _ _).mono ?_); rintro e wb ⟨rfl, hb1⟩; (first | (have HT := HT.later hb1) | (have HT := HT.drew.later hb1));  have HTL := Lib.hid (HT.box 0).lt) | (go_at_call 18; (with_reducible refine (toPatch_any _ _ _ _ _ _ _ _ _ _ _ _ _).mono ?_); rintro e wb ⟨rfl, hb1⟩; (first | (have HT := HT.later hb1) | (have HT := HT.drew.later hb1));  have HTL := Lib.hid (HT.box 0).lt) | (go_at_call 19; (with_reducible refine (HSA.out _).mono ?_); rintro e w4 ⟨A1, k1, rfl, ho1, hb4⟩; have HR := Lib.hid (RowC.of_own mgc_len ho1 rfl : RowC 12 mgc w4 w4.heap.size A1 xs); have HT := HT.later hb4; clear ho1 hb4))
  clear HSA HTL
  go_upto_region 2 with fail
  go_region_held3 (fun w' => w'.cell? ⟨w.heap.size, 0, none⟩ = some (.int .i64 a0_0) ∧ w'.cell? ⟨w.heap.size, 1, none⟩ = some (.int .i64 a0_1) ∧ w'.cell? ⟨w.heap.size, 2, none⟩ = some (.int .i64 a0_2) ∧ w'.cell? ⟨w.heap.size, 3, none⟩ = some (.int .i64 a0_3) ∧ w'.cell? ⟨w.heap.size, 4, none⟩ = some (.bool a0_4) ∧ w'.cell? ⟨w.heap.size, 5, none⟩ = some (.int .i64 a0_5) ∧ w'.cell? ⟨w.heap.size, 6, none⟩ = some (.int .i64 a0_6) ∧ w'.cell? ⟨w.heap.size + 1, 0, none⟩ = some (.int .i64 a1_0) ∧ w'.cell? ⟨w.heap.size + 1, 1, none⟩ = some (.int .i64 a1_1) ∧ w'.cell? ⟨w.heap.size + 1, 2, none⟩ = some (.int .i64 a1_2) ∧ w'.cell? ⟨w.heap.size + 1, 3, none⟩ = some (.int .i64 a1_3) ∧ w'.cell? ⟨w.heap.size + 1, 4, none⟩ = some (.int .i64 a1_4) ∧ w'.cell? ⟨w.heap.size + 1, 5, none⟩ = some (.int .i64 a1_5) ∧ w'.cell? ⟨w.heap.size + 1, 6, none⟩ = some (.int .i64 a1_6) ∧ w'.cell? ⟨w.heap.size + 1, 7, none⟩ = some (.int .i64 a1_7) ∧ w'.cell? ⟨w.heap.size + 1, 8, none⟩ = some (.int .i64 a1_8) ∧ w'.cell? ⟨w.heap.size + 1, 9, none⟩ = some (.int .i64 a1_9) ∧ w'.cell? ⟨w.heap.size + 1, 10, none⟩ = some (.int .i64 a1_10) ∧ w'.cell? ⟨w.heap.size + 1, 11, none⟩ = some (.int .i64 a1_11))
    (first | (with_reducible exact HC _ HT) | (with_reducible exact HC _ HT.drew))
    (first | (go_at_call 17; (with_reducible refine (toCamera_any _ _ _ _ _ _ _ _).mono ?_); rintro e wb ⟨rfl, hb1⟩; (first | (have HT := HT.later hb1) | (have HT := HT.drew.later hb1)); (first | (have HR := Lib.hid (HR.out.later hb1)) | (have HR := Lib.hid ((rowC_drew HR.out).later hb1))); have HTL := Lib.hid (HT.box 0).lt) | (go_at_call 18; (with_reducible refine (toPatch_any _ _ _ _ _ _ _ _ _ _ _ _ _).mono ?_); rintro e wb ⟨rfl, hb1⟩; (first | (have HT := HT.later hb1) | (have HT := HT.drew.later hb1)); (first | (have HR := Lib.hid (HR.out.later hb1)) | (have HR := Lib.hid ((rowC_drew HR.out).later hb1))); have HTL := Lib.hid (HT.box 0).lt) | (go_at_call 20; (with_reducible refine (HIA.out _).mono ?_); rintro e w4 ⟨A2, k2, rfl, ho2, hb4⟩; have HR := Lib.hid (HR.out.below hb4); have HT := HT.later hb4; have HO := Lib.hid ho2; have hs4 := hb4.size; clear ho2 hb4))
  obtain ⟨lo, hlo⟩ : ∃ lo, lo = wb.heap.size := ⟨_, rfl⟩
  rw [← hlo] at HR HO hs4 HTL
  have HTL := HTL.out
  clear hlo
  go_wp2_with fail
  refine (eqMicS_same _ _ _ _ xs _ (RowC.of_own mgc_len HO.out rfl) (HR.out.more hs4) (by omega)).mono ?_
  rintro e w5 ⟨rfl, hb5⟩
  have HT := HT.later hb5
  have HO5 := Lib.hid (own_keep' HO.out hb5)
  have HR5 := Lib.hid (HR.out.below (hb5.mono hs4))
  have hs5 : lo ≤ w5.heap.size := Nat.le_trans hs4 hb5.size
  clear hb5 HO HR hs4
  go_wp2_with fail
  refine (markMicS_any _ _ lo 1 xs _ HO5.out (by omega)).mono ?_
  rintro e w6 ⟨rfl, ho6, hb6⟩
  have HT := HT.laterM hb6 (by omega) (by simp <;> omega)
  have HM6 : Hid (RowC 12 mgc w6 w6.heap.size A2 (mkIn 1 xs.length xs)) := Lib.hid (RowC.of_own mgc_len ho6 (mkIn_len _ _ _))
  have HR6 := Lib.hid (HR5.out.below hb6)
  have hs6 : lo ≤ w6.heap.size := Nat.le_trans hs5 hb6.size
  clear ho6 hb6 HO5 HR5 hs5
  go_wp2_with fail
  refine (heldMicS_any _ _ 1 xs _ HM6.out (by omega)).mono ?_
  rintro e w7 ⟨rfl, hb7⟩
  have HT := HT.later hb7
  have HM := Lib.hid (HM6.out.later hb7)
  have HR := Lib.hid ((HR6.out.below (hb7.mono hs6)).more (Nat.le_trans hs6 hb7.size))
  clear hb7 HM6 HR6 hs6 HTL
  go_upto_region 13 with fail
  go_region_held3 (fun w' => w'.cell? ⟨w.heap.size, 0, none⟩ = some (.int .i64 a0_0) ∧ w'.cell? ⟨w.heap.size, 1, none⟩ = some (.int .i64 a0_1) ∧ w'.cell? ⟨w.heap.size, 2, none⟩ = some (.int .i64 a0_2) ∧ w'.cell? ⟨w.heap.size, 3, none⟩ = some (.int .i64 a0_3) ∧ w'.cell? ⟨w.heap.size, 4, none⟩ = some (.bool a0_4) ∧ w'.cell? ⟨w.heap.size, 5, none⟩ = some (.int .i64 a0_5) ∧ w'.cell? ⟨w.heap.size, 6, none⟩ = some (.int .i64 a0_6) ∧ w'.cell? ⟨w.heap.size + 1, 0, none⟩ = some (.int .i64 a1_0) ∧ w'.cell? ⟨w.heap.size + 1, 1, none⟩ = some (.int .i64 a1_1) ∧ w'.cell? ⟨w.heap.size + 1, 2, none⟩ = some (.int .i64 a1_2) ∧ w'.cell? ⟨w.heap.size + 1, 3, none⟩ = some (.int .i64 a1_3) ∧ w'.cell? ⟨w.heap.size + 1, 4, none⟩ = some (.int .i64 a1_4) ∧ w'.cell? ⟨w.heap.size + 1, 5, none⟩ = some (.int .i64 a1_5) ∧ w'.cell? ⟨w.heap.size + 1, 6, none⟩ = some (.int .i64 a1_6) ∧ w'.cell? ⟨w.heap.size + 1, 7, none⟩ = some (.int .i64 a1_7) ∧ w'.cell? ⟨w.heap.size + 1, 8, none⟩ = some (.int .i64 a1_8) ∧ w'.cell? ⟨w.heap.size + 1, 9, none⟩ = some (.int .i64 a1_9) ∧ w'.cell? ⟨w.heap.size + 1, 10, none⟩ = some (.int .i64 a1_10) ∧ w'.cell? ⟨w.heap.size + 1, 11, none⟩ = some (.int .i64 a1_11))
    (first | (with_reducible exact HC _ HT) | (with_reducible exact HC _ HT.drew))
    (first | (go_at_call 17; (with_reducible refine (toCamera_any _ _ _ _ _ _ _ _).mono ?_); rintro e wb ⟨rfl, hb1⟩; (first | (have HT := HT.later hb1) | (have HT := HT.drew.later hb1)); (first | (have HM := Lib.hid (HM.out.later hb1)) | (have HM := Lib.hid ((rowC_drew HM.out).later hb1))); (first | (have HR := Lib.hid (HR.out.later hb1)) | (have HR := Lib.hid ((rowC_drew HR.out).later hb1))); have HTL := Lib.hid (HT.box 0).lt) | (go_at_call 18; (with_reducible refine (toPatch_any _ _ _ _ _ _ _ _ _ _ _ _ _).mono ?_); rintro e wb ⟨rfl, hb1⟩; (first | (have HT := HT.later hb1) | (have HT := HT.drew.later hb1)); (first | (have HM := Lib.hid (HM.out.later hb1)) | (have HM := Lib.hid ((rowC_drew HM.out).later hb1))); (first | (have HR := Lib.hid (HR.out.later hb1)) | (have HR := Lib.hid ((rowC_drew HR.out).later hb1))); have HTL := Lib.hid (HT.box 0).lt) | (go_at_call 20; (with_reducible refine (HIA.out _).mono ?_); rintro e w4 ⟨A6, k6, rfl, ho9, hb4⟩; have HM := Lib.hid (HM.out.later hb4); have HR := Lib.hid (HR.out.later hb4); have HT := HT.later hb4; have HO := Lib.hid ho9; clear ho9 hb4))
  clear HIA HC
  go_wp2_with fail
  refine (eqMicS_same _ _ _ _ xs _ (RowC.of_own mgc_len HO.out rfl) HR.out (by omega)).mono ?_
  rintro e w10 ⟨rfl, hb10⟩
  have HT := HT.later hb10
  have HM10 := Lib.hid (HM.out.later hb10)
  clear hb10 HM HO HR
  go_wp2_with fail
  refine (heldMicS_any _ _ 1 xs _ HM10.out (by omega)).mono ?_
  rintro e w11 ⟨rfl, hb11⟩
  have HT := HT.later hb11
  clear hb11 HM10
  go_wp2_with fail
  go_ret
  exact ⟨rfl, HT.below⟩

set_option maxRecDepth 100000 in
theorem lifted (os : Os) (started : os.Started) (H : Type) (enc : TypeId × Value → H) :
    ReturnsInHanded {} Try.checked os 5 .any (Rows.fnExactDiceCellSpec.pre6 enc Try.prog Try.f5 Rows.fnExactDiceCellRow.domain false) (Rows.fnExactDiceCellSpec.post enc Try.prog Try.f5 false true false false) := by
  refine returnsInHanded_of_change (C := Try.checked) own started (by kernel_rfl) Try.func5
    (ChangeSpec.witness6 (enc := enc) (C := Try.checked) false ⟨#[], #[.agg #[.int .i64 0, .int .i64 0, .int .i64 0, .int .i64 0, .bool false, .int .i64 0, .int .i64 0], .agg #[.int .i64 0, .int .i64 0, .int .i64 0, .int .i64 0, .int .i64 0, .int .i64 0, .int .i64 0, .int .i64 0, .int .i64 0, .int .i64 0, .int .i64 0, .int .i64 0], .int .i64 0, .int .i64 0, .int .i64 0, .int .i64 0, .int .i64 0], []⟩ 8 (by kernel_rfl) (by kernel_rfl) (by kernel_rfl) (by kernel_rfl)) ?_
  intro W base args ds gs before hval0 hW hcnd _
  have hval : ∀ (j : Nat) t v, Try.f5.params[j]? = some t → args[j]? = some v → Value.okWide Try.prog W .any base t v := hval0
  have hW' := hW
  obtain ⟨p, q, hA0, hV, rfl, hfz, hnd⟩ := hW
  have hA : DataW.TrodAll enc Try.prog W 0 (fun _ => true) true Try.f5.params.toList args.toList ds p := hA0
  rw [Try.params5] at hA hval
  obtain ⟨v0, vs0, d0, ds0, p0, q0, hargs, rfl, rfl, h0, r1000⟩ := trodAll_cons hA
  obtain ⟨v1, vs1, d1, ds1, p1, q1, rfl, rfl, rfl, h1, r1001⟩ := trodAll_cons r1000
  obtain ⟨v2, vs2, d2, ds2, p2, q2, rfl, rfl, rfl, h2, r1002⟩ := trodAll_cons r1001
  obtain ⟨v3, vs3, d3, ds3, p3, q3, rfl, rfl, rfl, h3, r1003⟩ := trodAll_cons r1002
  obtain ⟨v4, vs4, d4, ds4, p4, q4, rfl, rfl, rfl, h4, r1004⟩ := trodAll_cons r1003
  obtain ⟨v5, vs5, d5, ds5, p5, q5, rfl, rfl, rfl, h5, r1005⟩ := trodAll_cons r1004
  obtain ⟨v6, vs6, d6, ds6, p6, q6, rfl, rfl, rfl, h6, r1006⟩ := trodAll_cons r1005
  obtain ⟨rfl, rfl, rfl⟩ := trodAll_nil r1006
  obtain rfl : args = #[v0, v1, v2, v3, v4, v5, v6] := by cases args; simp_all
  obtain ⟨rfl, rfl⟩ := trodVars_none hV
  have k0 := h0
  have lt0 : ∀ x ∈ p0, x.block < W.heap.size := by obtain ⟨m, hm⟩ := k0; exact DataW.trod_lt m _ _ _ hm
  have hv0 := hval 0 48 v0 rfl rfl
  obtain ⟨vs0, rfl, kk0⟩ := open_flatK (P := Try.prog) (t := 48) Try.underlying48 flatK48_ hv0 h0
  obtain ⟨a0_0, r0, rfl, w0_0, kk0⟩ := kk0
  obtain ⟨a0_1, r0, rfl, w0_1, kk0⟩ := kk0
  obtain ⟨a0_2, r0, rfl, w0_2, kk0⟩ := kk0
  obtain ⟨a0_3, r0, rfl, w0_3, kk0⟩ := kk0
  obtain ⟨a0_4, r0, rfl, kk0⟩ := kk0
  obtain ⟨a0_5, r0, rfl, w0_5, kk0⟩ := kk0
  obtain ⟨a0_6, r0, rfl, w0_6, kk0⟩ := kk0
  obtain rfl := kk0
  have k1 := h1
  have lt1 : ∀ x ∈ p1, x.block < W.heap.size := by obtain ⟨m, hm⟩ := k1; exact DataW.trod_lt m _ _ _ hm
  have hv1 := hval 1 52 v1 rfl rfl
  obtain ⟨zs1, hzs1, rfl, wzs1⟩ := open_flat (P := Try.prog) (t := 52) (n := 12) Try.underlying52 flat52_ hv1 h1
  obtain ⟨a1_0, a1_1, a1_2, a1_3, a1_4, a1_5, a1_6, a1_7, a1_8, a1_9, a1_10, a1_11, rfl⟩ := list12 hzs1
  obtain ⟨a2, rfl, rfl, rfl, w2⟩ := open_int Try.underlying3 (hval 2 3 v2 rfl rfl) h2
  obtain ⟨a3, rfl, rfl, rfl, w3⟩ := open_int Try.underlying3 (hval 3 3 v3 rfl rfl) h3
  obtain ⟨a4, rfl, rfl, rfl, w4⟩ := open_int Try.underlying3 (hval 4 3 v4 rfl rfl) h4
  obtain ⟨a5, rfl, rfl, rfl, w5⟩ := open_int Try.underlying3 (hval 5 3 v5 rfl rfl) h5
  obtain ⟨a6, rfl, rfl, rfl, w6⟩ := open_int Try.underlying3 (hval 6 3 v6 rfl rfl) h6
  clear hA0
  refine (walk W a0_0 w0_0 a0_1 w0_1 a0_2 w0_2 a0_3 w0_3 a0_4 a0_5 w0_5 a0_6 w0_6 a1_0 a1_1 a1_2 a1_3 a1_4 a1_5 a1_6 a1_7 a1_8 a1_9 a1_10 a1_11 (wzs1 _ (by simp)) (wzs1 _ (by simp)) (wzs1 _ (by simp)) (wzs1 _ (by simp)) (wzs1 _ (by simp)) (wzs1 _ (by simp)) (wzs1 _ (by simp)) (wzs1 _ (by simp)) (wzs1 _ (by simp)) (wzs1 _ (by simp)) (wzs1 _ (by simp)) (wzs1 _ (by simp)) a2 w2 a3 w3 a4 w4 a5 w5 a6 w6).mono fun e W' ⟨he, bel⟩ => ?_
  subst he
  exact ⟨_, rfl, _, _, _, [], _, [], hW', trodAll_mk1 (shut_bool Try.underlying4 _), (trodAll_cons_mk (Below.trod laidOut (by kernel_rfl) (of_decide_eq_true (by kernel_rfl)) k0 bel lt0) (trodAll_cons_mk (Below.trod laidOut (by kernel_rfl) (of_decide_eq_true (by kernel_rfl)) k1 bel lt1) (trodAll_cons_mk (shut_int Try.underlying3 w2) (trodAll_cons_mk (shut_int Try.underlying3 w3) (trodAll_cons_mk (shut_int Try.underlying3 w4) (trodAll_cons_mk (shut_int Try.underlying3 w5) (trodAll_cons_mk (shut_int Try.underlying3 w6) trodAll_mk0))))))), rfl, bel.frame _, fun h => by cases h⟩

theorem proved : Rows.FnExactDiceCellSaid :=
  OpenClaim.holds_of_wide 5 Try.f5 rfl rfl rfl rfl rfl rfl rfl ⟨rfl, rfl, rfl, rfl, rfl⟩ rfl rfl rfl rfl rfl (by kernel_rfl) Try.func5 (by kernel_rfl)
    (of_decide_eq_true (by kernel_rfl)) (by unfold Func.isWrapper; first | (rw [if_pos (by decide +kernel)]; kernel_rfl) | (rw [if_neg (by decide +kernel)]; exact ⟨rfl, rfl⟩))
    (fun os started H enc _ => lifted os started H enc)
#print axioms proved
end Go.Proofs.Ytmhcpjednogegaa.fnExactDiceCell
