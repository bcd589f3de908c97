/-
  Proved: the law FnExactEvalSubPatch returns true for every input and its arguments read behind the call as they read before. Conditions: none of our own; those of the given row alone.
-/
import Derived.Test.YtjflkapdnnecjaaRows
import Derived.WalkKit
import Derived.ProofKit
import Derived.OpenShut
import Derived.ShutString
import Derived.SliceStrings
import Derived.ChangeOld
import Derived.Below
import Derived.Test.YtjflkapdnnecjaaFlat
import Derived.Test.YtjflkapdnnecjaaVbox
import Derived.Test.YtjflkapdnnecjaaVec
import Derived.Test.YtjflkapdnnecjaaHeld
import Derived.Test.YtjflkapdnnecjaaArr
import Derived.Test.YtjflkapdnnecjaaTr
import Derived.Test.YtjflkapdnnecjaaMem
import Derived.Test.YtjflkapdnnecjaaRowC
import Derived.Test.YtjflkapdnnecjaaPat
import Derived.Test.YtjflkapdnnecjaaPTo
import Derived.Test.YtjflkapdnnecjaaPVal
import Derived.Test.YtjflkapdnnecjaaGrid
import Derived.Test.YtjflkapdnnecjaaPut
import Derived.Test.YtjflkapdnnecjaaPEv
import Derived.Test.YtjflkapdnnecjaaPEs
import Derived.Test.YtjflkapdnnecjaaSub
import Derived.Test.YtjflkapdnnecjaaSubE
import Derived.Deep.RegionHeld3
import Derived.Deep.DeepCutAuto
import Derived.Handy
namespace Go.Proofs.Ytjflkapdnnecjaa.fnExactEvalSubPatch
open Go.ChangeShapes Go.WideShapes Go.ChangeAt Go.RowKit
open Go.ChangeMaps (open_string shut_string)
set_option linter.unusedVariables false

theorem own : ownKnob Try.prog.godebug = none := by kernel_rfl
theorem laidOut : laidOutB Try.prog = true := by kernel_rfl
theorem flat3 : FlatI Try.prog 3 (Try.prog.cellsOf 3) := by rw [show Try.prog.cellsOf 3 = 1 by kernel_rfl]; exact flat1 Try.underlying3
theorem cells38 : Try.prog.cellsOf 38 = 3 := by kernel_rfl
theorem flatE38 : FlatI Try.prog 38 3 := flatS Try.underlying38 cells38 (by exact ⟨by kernel_rfl, flat3, ⟨by kernel_rfl, flat3, ⟨by kernel_rfl, flat3, by unfold FlatFs; kernel_rfl⟩⟩⟩)
theorem cellsE38 : Try.prog.cellsOf 38 = 3 := by kernel_rfl
theorem cellsA39 : Try.prog.cellsOf 39 = 4 * 3 := by kernel_rfl
theorem flat39 : FlatI Try.prog 39 (Try.prog.cellsOf 39) := by rw [show Try.prog.cellsOf 39 = 12 by kernel_rfl]; exact flatA Try.underlying39 cellsA39 cellsE38 flatE38
theorem cells41 : Try.prog.cellsOf 41 = 12 := by kernel_rfl
theorem flat41_ : FlatI Try.prog 41 12 := flatS Try.underlying41 cells41 (by exact ⟨by kernel_rfl, flat39, by unfold FlatFs; kernel_rfl⟩)
theorem cells47 : Try.prog.cellsOf 47 = 3 := by kernel_rfl
theorem flat47_ : FlatI Try.prog 47 3 := flatS Try.underlying47 cells47 (by exact ⟨by kernel_rfl, flat3, ⟨by kernel_rfl, flat3, ⟨by kernel_rfl, flat3, by unfold FlatFs; kernel_rfl⟩⟩⟩)
set_option maxHeartbeats 8000000 in
theorem walk (w : World) (a0_0 a0_1 a0_2 a0_3 a0_4 a0_5 a0_6 a0_7 a0_8 a0_9 a0_10 a0_11 : Int) (w0_0 : (Lit.int .i64 a0_0).wf = true) (w0_1 : (Lit.int .i64 a0_1).wf = true) (w0_2 : (Lit.int .i64 a0_2).wf = true) (w0_3 : (Lit.int .i64 a0_3).wf = true) (w0_4 : (Lit.int .i64 a0_4).wf = true) (w0_5 : (Lit.int .i64 a0_5).wf = true) (w0_6 : (Lit.int .i64 a0_6).wf = true) (w0_7 : (Lit.int .i64 a0_7).wf = true) (w0_8 : (Lit.int .i64 a0_8).wf = true) (w0_9 : (Lit.int .i64 a0_9).wf = true) (w0_10 : (Lit.int .i64 a0_10).wf = true) (w0_11 : (Lit.int .i64 a0_11).wf = true) (a1_0 a1_1 a1_2 : Int) (w1_0 : (Lit.int .i64 a1_0).wf = true) (w1_1 : (Lit.int .i64 a1_1).wf = true) (w1_2 : (Lit.int .i64 a1_2).wf = true) (a2 : Int) (w2 : (Lit.int .i64 a2).wf = true) (a3 : Int) (w3 : (Lit.int .i64 a3).wf = true) (a4 : Int) (w4 : (Lit.int .i64 a4).wf = true) :
    Calls Try.prog 9 #[.agg #[.int .i64 a0_0, .int .i64 a0_1, .int .i64 a0_2, .int .i64 a0_3, .int .i64 a0_4, .int .i64 a0_5, .int .i64 a0_6, .int .i64 a0_7, .int .i64 a0_8, .int .i64 a0_9, .int .i64 a0_10, .int .i64 a0_11], .agg #[.int .i64 a1_0, .int .i64 a1_1, .int .i64 a1_2], .int .i64 a2, .int .i64 a3, .int .i64 a4] w fun e w' => e = .returned (.bool true) ∧ Below w.heap.size w w' := by
  have HT : Held w ((w.alloc (.cells #[.int .i64 a0_0, .int .i64 a0_1, .int .i64 a0_2, .int .i64 a0_3, .int .i64 a0_4, .int .i64 a0_5, .int .i64 a0_6, .int .i64 a0_7, .int .i64 a0_8, .int .i64 a0_9, .int .i64 a0_10, .int .i64 a0_11] 41)).alloc (.cells #[.int .i64 a1_0, .int .i64 a1_1, .int .i64 a1_2] 47)) [(w.heap.size + 1, [.int .i64 a1_0, .int .i64 a1_1, .int .i64 a1_2]), (w.heap.size, [.int .i64 a0_0, .int .i64 a0_1, .int .i64 a0_2, .int .i64 a0_3, .int .i64 a0_4, .int .i64 a0_5, .int .i64 a0_6, .int .i64 a0_7, .int .i64 a0_8, .int .i64 a0_9, .int .i64 a0_10, .int .i64 a0_11])] := by
    have h := ((Held.nil w).new #[.int .i64 a0_0, .int .i64 a0_1, .int .i64 a0_2, .int .i64 a0_3, .int .i64 a0_4, .int .i64 a0_5, .int .i64 a0_6, .int .i64 a0_7, .int .i64 a0_8, .int .i64 a0_9, .int .i64 a0_10, .int .i64 a0_11] 41).new #[.int .i64 a1_0, .int .i64 a1_1, .int .i64 a1_2] 47
    simpa only [World.size_alloc] using h
  obtain ⟨d0, d1, d2, b, HSA, HIA⟩ : ∃ (d0 d1 d2 : Int) (b : Bool), (∀ w : World, Calls Try.prog 31 #[tr a0_0 a0_1 a0_2 a0_3 a0_4 a0_5 a0_6 a0_7 a0_8 a0_9 a0_10 a0_11, vec a1_0 a1_1 a1_2, .int .i64 a2, .int .i64 a3, .int .i64 a4] w (VecB d0 d1 d2 b w)) ∧ (∀ w : World, Calls Try.prog 15 #[tr a0_0 a0_1 a0_2 a0_3 a0_4 a0_5 a0_6 a0_7 a0_8 a0_9 a0_10 a0_11, vec a1_0 a1_1 a1_2, .int .i64 a2, .int .i64 a3, .int .i64 a4] w (VecB d0 d1 d2 b w)) := by
    by_cases h : sGood a1_0 a1_1 a1_2 a2 a3 a4
    · exact ⟨_, _, _, true, fun w => sEvalSub_yes a0_0 a0_1 a0_2 a0_3 a0_4 a0_5 a0_6 a0_7 a0_8 a0_9 a0_10 a0_11 a1_0 a1_1 a1_2 a2 a3 a4 w h, fun w => evalSub_yes a0_0 a0_1 a0_2 a0_3 a0_4 a0_5 a0_6 a0_7 a0_8 a0_9 a0_10 a0_11 a1_0 a1_1 a1_2 a2 a3 a4 w h⟩
    · exact ⟨0, 0, 0, false, fun w => sEvalSub_no a0_0 a0_1 a0_2 a0_3 a0_4 a0_5 a0_6 a0_7 a0_8 a0_9 a0_10 a0_11 a1_0 a1_1 a1_2 a2 a3 a4 w h, fun w => evalSub_no a0_0 a0_1 a0_2 a0_3 a0_4 a0_5 a0_6 a0_7 a0_8 a0_9 a0_10 a0_11 a1_0 a1_1 a1_2 a2 a3 a4 w h⟩
  go_enter Try.func9, Try.ntmps9
  go_upto_region 1 with fail
  have HC : ∀ W, Held w W [(w.heap.size + 1, [.int .i64 a1_0, .int .i64 a1_1, .int .i64 a1_2]), (w.heap.size, [.int .i64 a0_0, .int .i64 a0_1, .int .i64 a0_2, .int .i64 a0_3, .int .i64 a0_4, .int .i64 a0_5, .int .i64 a0_6, .int .i64 a0_7, .int .i64 a0_8, .int .i64 a0_9, .int .i64 a0_10, .int .i64 a0_11])] → (W.cell? ⟨w.heap.size, 0, none⟩ = some (.int .i64 a0_0) ∧ W.cell? ⟨w.heap.size, 1, none⟩ = some (.int .i64 a0_1) ∧ W.cell? ⟨w.heap.size, 2, none⟩ = some (.int .i64 a0_2) ∧ W.cell? ⟨w.heap.size, 3, none⟩ = some (.int .i64 a0_3) ∧ W.cell? ⟨w.heap.size, 4, none⟩ = some (.int .i64 a0_4) ∧ W.cell? ⟨w.heap.size, 5, none⟩ = some (.int .i64 a0_5) ∧ W.cell? ⟨w.heap.size, 6, none⟩ = some (.int .i64 a0_6) ∧ W.cell? ⟨w.heap.size, 7, none⟩ = some (.int .i64 a0_7) ∧ W.cell? ⟨w.heap.size, 8, none⟩ = some (.int .i64 a0_8) ∧ W.cell? ⟨w.heap.size, 9, none⟩ = some (.int .i64 a0_9) ∧ W.cell? ⟨w.heap.size, 10, none⟩ = some (.int .i64 a0_10) ∧ W.cell? ⟨w.heap.size, 11, none⟩ = some (.int .i64 a0_11) ∧ W.cell? ⟨w.heap.size + 1, 0, none⟩ = some (.int .i64 a1_0) ∧ W.cell? ⟨w.heap.size + 1, 1, none⟩ = some (.int .i64 a1_1) ∧ W.cell? ⟨w.heap.size + 1, 2, none⟩ = some (.int .i64 a1_2) ∧ W.rangeAt (w.heap.size) 0 [.int .i64 a0_0, .int .i64 a0_1, .int .i64 a0_2, .int .i64 a0_3, .int .i64 a0_4, .int .i64 a0_5, .int .i64 a0_6, .int .i64 a0_7, .int .i64 a0_8, .int .i64 a0_9, .int .i64 a0_10, .int .i64 a0_11]) := fun W h => ⟨(h.box 1).c 0, (h.box 1).c 1, (h.box 1).c 2, (h.box 1).c 3, (h.box 1).c 4, (h.box 1).c 5, (h.box 1).c 6, (h.box 1).c 7, (h.box 1).c 8, (h.box 1).c 9, (h.box 1).c 10, (h.box 1).c 11, (h.box 0).c 0, (h.box 0).c 1, (h.box 0).c 2, (h.box 1).range12⟩
  have hz0 := (HT.box 0).lt
  have hz1 := (HT.box 1).lt
  go_cut [11, 12] (fun s x wx => ∃ gg : Nat, s = .pointer (some ⟨gg, 0, none⟩) ∧ x = .bool b ∧ Mbox wx gg [.int .i64 d0, .int .i64 d1, .int .i64 d2] ∧ Held w wx [(w.heap.size + 1, [.int .i64 a1_0, .int .i64 a1_1, .int .i64 a1_2]), (w.heap.size, [.int .i64 a0_0, .int .i64 a0_1, .int .i64 a0_2, .int .i64 a0_3, .int .i64 a0_4, .int .i64 a0_5, .int .i64 a0_6, .int .i64 a0_7, .int .i64 a0_8, .int .i64 a0_9, .int .i64 a0_10, .int .i64 a0_11])])
  case first =>
    go_region_held3 (fun w' => w'.cell? ⟨w.heap.size, 0, none⟩ = some (.int .i64 a0_0) ∧ w'.cell? ⟨w.heap.size, 1, none⟩ = some (.int .i64 a0_1) ∧ w'.cell? ⟨w.heap.size, 2, none⟩ = some (.int .i64 a0_2) ∧ w'.cell? ⟨w.heap.size, 3, none⟩ = some (.int .i64 a0_3) ∧ w'.cell? ⟨w.heap.size, 4, none⟩ = some (.int .i64 a0_4) ∧ w'.cell? ⟨w.heap.size, 5, none⟩ = some (.int .i64 a0_5) ∧ w'.cell? ⟨w.heap.size, 6, none⟩ = some (.int .i64 a0_6) ∧ w'.cell? ⟨w.heap.size, 7, none⟩ = some (.int .i64 a0_7) ∧ w'.cell? ⟨w.heap.size, 8, none⟩ = some (.int .i64 a0_8) ∧ w'.cell? ⟨w.heap.size, 9, none⟩ = some (.int .i64 a0_9) ∧ w'.cell? ⟨w.heap.size, 10, none⟩ = some (.int .i64 a0_10) ∧ w'.cell? ⟨w.heap.size, 11, none⟩ = some (.int .i64 a0_11) ∧ w'.cell? ⟨w.heap.size + 1, 0, none⟩ = some (.int .i64 a1_0) ∧ w'.cell? ⟨w.heap.size + 1, 1, none⟩ = some (.int .i64 a1_1) ∧ w'.cell? ⟨w.heap.size + 1, 2, none⟩ = some (.int .i64 a1_2) ∧ w'.rangeAt (w.heap.size) 0 [.int .i64 a0_0, .int .i64 a0_1, .int .i64 a0_2, .int .i64 a0_3, .int .i64 a0_4, .int .i64 a0_5, .int .i64 a0_6, .int .i64 a0_7, .int .i64 a0_8, .int .i64 a0_9, .int .i64 a0_10, .int .i64 a0_11])
      (first | (with_reducible exact HC _ HT) | (with_reducible exact HC _ HT.drew) | (with_reducible exact HC _ (HT.alloc _)) | (with_reducible exact HC _ (HT.alloc _).drew) | (with_reducible exact HC _ (HT.far3 (by omega) (by simp <;> omega) _ _ _)) | (with_reducible exact HC _ (HT.far3 (by omega) (by simp <;> omega) _ _ _).drew))
      (first | (go_at_call 18; refine (toPatch_any _ _ _ _ _ _ _ _ _ _ _ _ _).mono ?_; rintro e w1 ⟨rfl, hb1⟩; (first | (have HT := HT.later hb1) | (have HT := HT.drew.later hb1) | (have HT := (HT.alloc _).later hb1) | (have HT := (HT.alloc _).drew.later hb1)); have hz0 := (HT.box 0).lt; have hz1 := (HT.box 1).lt; (first | (have HG := (Mbox.newV _ (.int .i64 0) (.int .i64 0) (.int .i64 0) 24).later hb1) | (have HG := (Mbox.newV _ (.int .i64 0) (.int .i64 0) (.int .i64 0) 24).drew.later hb1) | (have HG := HG.later hb1) | skip); (try simp only [World.size_alloc] at HG); (try (have hg0 := HG.c 0; have gg0 := HG.f 0; have hg1 := HG.c 1; have gg1 := HG.f 1; have hg2 := HG.c 2; have gg2 := HG.f 2))) | (go_at_call 25; refine (toSub_any _ _ _ _).mono ?_; rintro e w1 ⟨rfl, hb1⟩; (first | (have HT := HT.later hb1) | (have HT := HT.drew.later hb1) | (have HT := (HT.alloc _).later hb1) | (have HT := (HT.alloc _).drew.later hb1)); have hz0 := (HT.box 0).lt; have hz1 := (HT.box 1).lt; (first | (have HG := (Mbox.newV _ (.int .i64 0) (.int .i64 0) (.int .i64 0) 24).later hb1) | (have HG := (Mbox.newV _ (.int .i64 0) (.int .i64 0) (.int .i64 0) 24).drew.later hb1) | (have HG := HG.later hb1) | skip); (try simp only [World.size_alloc] at HG); (try (have hg0 := HG.c 0; have gg0 := HG.f 0; have hg1 := HG.c 1; have gg1 := HG.f 1; have hg2 := HG.c 2; have gg2 := HG.f 2))) | (go_at_call 31; refine (HSA _).mono ?_; rintro e w1 ⟨rfl, hb1⟩; (first | (have HT := HT.later hb1) | (have HT := HT.drew.later hb1) | (have HT := (HT.alloc _).later hb1) | (have HT := (HT.alloc _).drew.later hb1)); have hz0 := (HT.box 0).lt; have hz1 := (HT.box 1).lt; (first | (have HG := (Mbox.newV _ (.int .i64 0) (.int .i64 0) (.int .i64 0) 24).later hb1) | (have HG := (Mbox.newV _ (.int .i64 0) (.int .i64 0) (.int .i64 0) 24).drew.later hb1) | (have HG := HG.later hb1) | skip); (try simp only [World.size_alloc] at HG); (try (have hg0 := HG.c 0; have gg0 := HG.f 0; have hg1 := HG.c 1; have gg1 := HG.f 1; have hg2 := HG.c 2; have gg2 := HG.f 2))))
    all_goals (go_wp2_with fail; go_meet)
    all_goals (first | with_reducible exact ⟨_, rfl, rfl, Mbox.newV _ _ _ _ _, HT.alloc _⟩ | with_reducible exact ⟨_, rfl, rfl, HG.putV _ _ _, HT.far3 (by omega) (by simp <;> omega) _ _ _⟩)
  case rest =>
    clear HC HT hz0 hz1
    obtain ⟨g, rfl, rfl, HV, HT⟩ := hcut
    have HT := HT.cons HV
    clear HV HSA
    go_upto_region 2 with fail
    have HC : ∀ W, Held w W [(g, [.int .i64 d0, .int .i64 d1, .int .i64 d2]), (w.heap.size + 1, [.int .i64 a1_0, .int .i64 a1_1, .int .i64 a1_2]), (w.heap.size, [.int .i64 a0_0, .int .i64 a0_1, .int .i64 a0_2, .int .i64 a0_3, .int .i64 a0_4, .int .i64 a0_5, .int .i64 a0_6, .int .i64 a0_7, .int .i64 a0_8, .int .i64 a0_9, .int .i64 a0_10, .int .i64 a0_11])] → (W.cell? ⟨w.heap.size, 0, none⟩ = some (.int .i64 a0_0) ∧ W.cell? ⟨w.heap.size, 1, none⟩ = some (.int .i64 a0_1) ∧ W.cell? ⟨w.heap.size, 2, none⟩ = some (.int .i64 a0_2) ∧ W.cell? ⟨w.heap.size, 3, none⟩ = some (.int .i64 a0_3) ∧ W.cell? ⟨w.heap.size, 4, none⟩ = some (.int .i64 a0_4) ∧ W.cell? ⟨w.heap.size, 5, none⟩ = some (.int .i64 a0_5) ∧ W.cell? ⟨w.heap.size, 6, none⟩ = some (.int .i64 a0_6) ∧ W.cell? ⟨w.heap.size, 7, none⟩ = some (.int .i64 a0_7) ∧ W.cell? ⟨w.heap.size, 8, none⟩ = some (.int .i64 a0_8) ∧ W.cell? ⟨w.heap.size, 9, none⟩ = some (.int .i64 a0_9) ∧ W.cell? ⟨w.heap.size, 10, none⟩ = some (.int .i64 a0_10) ∧ W.cell? ⟨w.heap.size, 11, none⟩ = some (.int .i64 a0_11) ∧ W.cell? ⟨w.heap.size + 1, 0, none⟩ = some (.int .i64 a1_0) ∧ W.cell? ⟨w.heap.size + 1, 1, none⟩ = some (.int .i64 a1_1) ∧ W.cell? ⟨w.heap.size + 1, 2, none⟩ = some (.int .i64 a1_2) ∧ W.rangeAt (w.heap.size) 0 [.int .i64 a0_0, .int .i64 a0_1, .int .i64 a0_2, .int .i64 a0_3, .int .i64 a0_4, .int .i64 a0_5, .int .i64 a0_6, .int .i64 a0_7, .int .i64 a0_8, .int .i64 a0_9, .int .i64 a0_10, .int .i64 a0_11]) := fun W h => ⟨(h.box 2).c 0, (h.box 2).c 1, (h.box 2).c 2, (h.box 2).c 3, (h.box 2).c 4, (h.box 2).c 5, (h.box 2).c 6, (h.box 2).c 7, (h.box 2).c 8, (h.box 2).c 9, (h.box 2).c 10, (h.box 2).c 11, (h.box 1).c 0, (h.box 1).c 1, (h.box 1).c 2, (h.box 2).range12⟩
    have hz0 := (HT.box 0).lt
    have hz1 := (HT.box 1).lt
    have hz2 := (HT.box 2).lt
    go_cut [13, 14] (fun s x wx => ∃ gg : Nat, s = .pointer (some ⟨gg, 0, none⟩) ∧ x = .bool b ∧ Mbox wx gg [.int .i64 d0, .int .i64 d1, .int .i64 d2] ∧ Held w wx [(g, [.int .i64 d0, .int .i64 d1, .int .i64 d2]), (w.heap.size + 1, [.int .i64 a1_0, .int .i64 a1_1, .int .i64 a1_2]), (w.heap.size, [.int .i64 a0_0, .int .i64 a0_1, .int .i64 a0_2, .int .i64 a0_3, .int .i64 a0_4, .int .i64 a0_5, .int .i64 a0_6, .int .i64 a0_7, .int .i64 a0_8, .int .i64 a0_9, .int .i64 a0_10, .int .i64 a0_11])])
    case first =>
      go_region_held3 (fun w' => w'.cell? ⟨w.heap.size, 0, none⟩ = some (.int .i64 a0_0) ∧ w'.cell? ⟨w.heap.size, 1, none⟩ = some (.int .i64 a0_1) ∧ w'.cell? ⟨w.heap.size, 2, none⟩ = some (.int .i64 a0_2) ∧ w'.cell? ⟨w.heap.size, 3, none⟩ = some (.int .i64 a0_3) ∧ w'.cell? ⟨w.heap.size, 4, none⟩ = some (.int .i64 a0_4) ∧ w'.cell? ⟨w.heap.size, 5, none⟩ = some (.int .i64 a0_5) ∧ w'.cell? ⟨w.heap.size, 6, none⟩ = some (.int .i64 a0_6) ∧ w'.cell? ⟨w.heap.size, 7, none⟩ = some (.int .i64 a0_7) ∧ w'.cell? ⟨w.heap.size, 8, none⟩ = some (.int .i64 a0_8) ∧ w'.cell? ⟨w.heap.size, 9, none⟩ = some (.int .i64 a0_9) ∧ w'.cell? ⟨w.heap.size, 10, none⟩ = some (.int .i64 a0_10) ∧ w'.cell? ⟨w.heap.size, 11, none⟩ = some (.int .i64 a0_11) ∧ w'.cell? ⟨w.heap.size + 1, 0, none⟩ = some (.int .i64 a1_0) ∧ w'.cell? ⟨w.heap.size + 1, 1, none⟩ = some (.int .i64 a1_1) ∧ w'.cell? ⟨w.heap.size + 1, 2, none⟩ = some (.int .i64 a1_2) ∧ w'.rangeAt (w.heap.size) 0 [.int .i64 a0_0, .int .i64 a0_1, .int .i64 a0_2, .int .i64 a0_3, .int .i64 a0_4, .int .i64 a0_5, .int .i64 a0_6, .int .i64 a0_7, .int .i64 a0_8, .int .i64 a0_9, .int .i64 a0_10, .int .i64 a0_11])
        (first | (with_reducible exact HC _ HT) | (with_reducible exact HC _ HT.drew) | (with_reducible exact HC _ (HT.alloc _)) | (with_reducible exact HC _ (HT.alloc _).drew) | (with_reducible exact HC _ (HT.far3 (by omega) (by simp <;> omega) _ _ _)) | (with_reducible exact HC _ (HT.far3 (by omega) (by simp <;> omega) _ _ _).drew))
        (first | (go_at_call 18; refine (toPatch_any _ _ _ _ _ _ _ _ _ _ _ _ _).mono ?_; rintro e w1 ⟨rfl, hb1⟩; (first | (have HT := HT.later hb1) | (have HT := HT.drew.later hb1) | (have HT := (HT.alloc _).later hb1) | (have HT := (HT.alloc _).drew.later hb1)); have hz0 := (HT.box 0).lt; have hz1 := (HT.box 1).lt; have hz2 := (HT.box 2).lt; (first | (have HG := (Mbox.newV _ (.int .i64 0) (.int .i64 0) (.int .i64 0) 24).later hb1) | (have HG := (Mbox.newV _ (.int .i64 0) (.int .i64 0) (.int .i64 0) 24).drew.later hb1) | (have HG := HG.later hb1) | skip); (try simp only [World.size_alloc] at HG); (try (have hg0 := HG.c 0; have gg0 := HG.f 0; have hg1 := HG.c 1; have gg1 := HG.f 1; have hg2 := HG.c 2; have gg2 := HG.f 2))) | (go_at_call 25; refine (toSub_any _ _ _ _).mono ?_; rintro e w1 ⟨rfl, hb1⟩; (first | (have HT := HT.later hb1) | (have HT := HT.drew.later hb1) | (have HT := (HT.alloc _).later hb1) | (have HT := (HT.alloc _).drew.later hb1)); have hz0 := (HT.box 0).lt; have hz1 := (HT.box 1).lt; have hz2 := (HT.box 2).lt; (first | (have HG := (Mbox.newV _ (.int .i64 0) (.int .i64 0) (.int .i64 0) 24).later hb1) | (have HG := (Mbox.newV _ (.int .i64 0) (.int .i64 0) (.int .i64 0) 24).drew.later hb1) | (have HG := HG.later hb1) | skip); (try simp only [World.size_alloc] at HG); (try (have hg0 := HG.c 0; have gg0 := HG.f 0; have hg1 := HG.c 1; have gg1 := HG.f 1; have hg2 := HG.c 2; have gg2 := HG.f 2))) | (go_at_call 15; refine (HIA _).mono ?_; rintro e w1 ⟨rfl, hb1⟩; (first | (have HT := HT.later hb1) | (have HT := HT.drew.later hb1) | (have HT := (HT.alloc _).later hb1) | (have HT := (HT.alloc _).drew.later hb1)); have hz0 := (HT.box 0).lt; have hz1 := (HT.box 1).lt; have hz2 := (HT.box 2).lt; (first | (have HG := (Mbox.newV _ (.int .i64 0) (.int .i64 0) (.int .i64 0) 24).later hb1) | (have HG := (Mbox.newV _ (.int .i64 0) (.int .i64 0) (.int .i64 0) 24).drew.later hb1) | (have HG := HG.later hb1) | skip); (try simp only [World.size_alloc] at HG); (try (have hg0 := HG.c 0; have gg0 := HG.f 0; have hg1 := HG.c 1; have gg1 := HG.f 1; have hg2 := HG.c 2; have gg2 := HG.f 2))))
      all_goals (go_wp2_with fail; go_meet)
      all_goals (first | with_reducible exact ⟨_, rfl, rfl, Mbox.newV _ _ _ _ _, HT.alloc _⟩ | with_reducible exact ⟨_, rfl, rfl, HG.putV _ _ _, HT.far3 (by omega) (by simp <;> omega) _ _ _⟩)
    case rest =>
      clear HC HT hz0 hz1 hz2
      obtain ⟨h, rfl, rfl, HV, HT⟩ := hcut
      have HT := HT.cons HV
      clear HV HIA
      have c0 := (HT.box 0).c 0
      have c1 := (HT.box 0).c 1
      have c2 := (HT.box 0).c 2
      have u0 := (HT.box 1).c 0
      have u1 := (HT.box 1).c 1
      have u2 := (HT.box 1).c 2
      go_wp2_with fail
      refine (eqVec_same _ _ _ _).mono ?_
      rintro e w4 ⟨rfl, hb4⟩
      have HT := HT.later hb4
      clear hb4 c0 c1 c2 u0 u1 u2
      cases b
      all_goals
        go_wp2_with fail
        go_ret
        exact ⟨rfl, HT.below⟩

set_option maxRecDepth 100000 in
theorem lifted (os : Os) (started : os.Started) (H : Type) (enc : TypeId × Value → H) :
    ReturnsInHanded {} Try.checked os 9 .any (Rows.fnExactEvalSubPatchSpec.pre6 enc Try.prog Try.f9 Rows.fnExactEvalSubPatchRow.domain false) (Rows.fnExactEvalSubPatchSpec.post enc Try.prog Try.f9 false true false false) := by
  refine returnsInHanded_of_change (C := Try.checked) own started (by kernel_rfl) Try.func9
    (ChangeSpec.witness6 (enc := enc) (C := Try.checked) false ⟨#[], #[.agg #[.int .i64 0, .int .i64 0, .int .i64 0, .int .i64 0, .int .i64 0, .int .i64 0, .int .i64 0, .int .i64 0, .int .i64 0, .int .i64 0, .int .i64 0, .int .i64 0], .agg #[.int .i64 0, .int .i64 0, .int .i64 0], .int .i64 0, .int .i64 0, .int .i64 0], []⟩ 8 (by kernel_rfl) (by kernel_rfl) (by kernel_rfl) (by kernel_rfl)) ?_
  intro W base args ds gs before hval0 hW hcnd _
  have hval : ∀ (j : Nat) t v, Try.f9.params[j]? = some t → args[j]? = some v → Value.okWide Try.prog W .any base t v := hval0
  have hW' := hW
  obtain ⟨p, q, hA0, hV, rfl, hfz, hnd⟩ := hW
  have hA : DataW.TrodAll enc Try.prog W 0 (fun _ => true) true Try.f9.params.toList args.toList ds p := hA0
  rw [Try.params9] at hA hval
  obtain ⟨v0, vs0, d0, ds0, p0, q0, hargs, rfl, rfl, h0, r1000⟩ := trodAll_cons hA
  obtain ⟨v1, vs1, d1, ds1, p1, q1, rfl, rfl, rfl, h1, r1001⟩ := trodAll_cons r1000
  obtain ⟨v2, vs2, d2, ds2, p2, q2, rfl, rfl, rfl, h2, r1002⟩ := trodAll_cons r1001
  obtain ⟨v3, vs3, d3, ds3, p3, q3, rfl, rfl, rfl, h3, r1003⟩ := trodAll_cons r1002
  obtain ⟨v4, vs4, d4, ds4, p4, q4, rfl, rfl, rfl, h4, r1004⟩ := trodAll_cons r1003
  obtain ⟨rfl, rfl, rfl⟩ := trodAll_nil r1004
  obtain rfl : args = #[v0, v1, v2, v3, v4] := by cases args; simp_all
  obtain ⟨rfl, rfl⟩ := trodVars_none hV
  have k0 := h0
  have lt0 : ∀ x ∈ p0, x.block < W.heap.size := by obtain ⟨m, hm⟩ := k0; exact DataW.trod_lt m _ _ _ hm
  have hv0 := hval 0 41 v0 rfl rfl
  obtain ⟨zs0, hzs0, rfl, wzs0⟩ := open_flat (P := Try.prog) (t := 41) (n := 12) Try.underlying41 flat41_ hv0 h0
  obtain ⟨a0_0, a0_1, a0_2, a0_3, a0_4, a0_5, a0_6, a0_7, a0_8, a0_9, a0_10, a0_11, rfl⟩ := list12 hzs0
  have k1 := h1
  have lt1 : ∀ x ∈ p1, x.block < W.heap.size := by obtain ⟨m, hm⟩ := k1; exact DataW.trod_lt m _ _ _ hm
  have hv1 := hval 1 47 v1 rfl rfl
  obtain ⟨zs1, hzs1, rfl, wzs1⟩ := open_flat (P := Try.prog) (t := 47) (n := 3) Try.underlying47 flat47_ hv1 h1
  obtain ⟨a1_0, a1_1, a1_2, rfl⟩ := list3 hzs1
  obtain ⟨a2, rfl, rfl, rfl, w2⟩ := open_int Try.underlying3 (hval 2 3 v2 rfl rfl) h2
  obtain ⟨a3, rfl, rfl, rfl, w3⟩ := open_int Try.underlying3 (hval 3 3 v3 rfl rfl) h3
  obtain ⟨a4, rfl, rfl, rfl, w4⟩ := open_int Try.underlying3 (hval 4 3 v4 rfl rfl) h4
  clear hA0
  refine (walk W a0_0 a0_1 a0_2 a0_3 a0_4 a0_5 a0_6 a0_7 a0_8 a0_9 a0_10 a0_11 (wzs0 _ (by simp)) (wzs0 _ (by simp)) (wzs0 _ (by simp)) (wzs0 _ (by simp)) (wzs0 _ (by simp)) (wzs0 _ (by simp)) (wzs0 _ (by simp)) (wzs0 _ (by simp)) (wzs0 _ (by simp)) (wzs0 _ (by simp)) (wzs0 _ (by simp)) (wzs0 _ (by simp)) a1_0 a1_1 a1_2 (wzs1 _ (by simp)) (wzs1 _ (by simp)) (wzs1 _ (by simp)) a2 w2 a3 w3 a4 w4).mono fun e W' ⟨he, bel⟩ => ?_
  subst he
  exact ⟨_, rfl, _, _, _, [], _, [], hW', trodAll_mk1 (shut_bool Try.underlying4 _), (trodAll_cons_mk (Below.trod laidOut (by kernel_rfl) (of_decide_eq_true (by kernel_rfl)) k0 bel lt0) (trodAll_cons_mk (Below.trod laidOut (by kernel_rfl) (of_decide_eq_true (by kernel_rfl)) k1 bel lt1) (trodAll_cons_mk (shut_int Try.underlying3 w2) (trodAll_cons_mk (shut_int Try.underlying3 w3) (trodAll_cons_mk (shut_int Try.underlying3 w4) trodAll_mk0))))), rfl, bel.frame _, fun h => by cases h⟩

theorem proved : Rows.FnExactEvalSubPatchSaid :=
  OpenClaim.holds_of_wide 9 Try.f9 rfl rfl rfl rfl rfl rfl rfl ⟨rfl, rfl, rfl, rfl, rfl⟩ rfl rfl rfl rfl rfl (by kernel_rfl) Try.func9 (by kernel_rfl)
    (of_decide_eq_true (by kernel_rfl)) (by unfold Func.isWrapper; first | (rw [if_pos (by decide +kernel)]; kernel_rfl) | (rw [if_neg (by decide +kernel)]; exact ⟨rfl, rfl⟩))
    (fun os started H enc _ => lifted os started H enc)
#print axioms proved
end Go.Proofs.Ytjflkapdnnecjaa.fnExactEvalSubPatch
