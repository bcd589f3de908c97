/-
  Proved: the law FnExactApply returns true for every input and its arguments read behind the call as they read before. Conditions: none of our own; those of the given row alone.
-/
import Derived.Test.YtjneionmliknhaaRows
import Derived.WalkKit
import Derived.ProofKit
import Derived.OpenShut
import Derived.ShutString
import Derived.SliceStrings
import Derived.ChangeOld
import Derived.Below
import Derived.Test.YtjneionmliknhaaFlat
import Derived.Test.YtjneionmliknhaaVbox
import Derived.Test.YtjneionmliknhaaVec
import Derived.Test.YtjneionmliknhaaHeld
import Derived.Test.YtjneionmliknhaaArr
import Derived.Test.YtjneionmliknhaaTr
import Derived.Test.YtjneionmliknhaaTTo
import Derived.Test.YtjneionmliknhaaTMat
import Derived.Test.YtjneionmliknhaaVDot
import Derived.Test.YtjneionmliknhaaVAdd
import Derived.Test.YtjneionmliknhaaTAw
import Derived.Test.YtjneionmliknhaaTApp
import Derived.Test.YtjneionmliknhaaTsApp
import Derived.Test.YtjneionmliknhaaTApA
import Derived.Deep.RegionHeld3
import Derived.Deep.DeepCutAuto
import Derived.Handy
import Derived.Test.YtjneionmliknhaaMem
namespace Go.Proofs.Ytjneionmliknhaa.fnExactApply
open Go.ChangeShapes Go.WideShapes Go.ChangeAt Go.RowKit
open Go.ChangeMaps (open_string shut_string)
set_option linter.unusedVariables false

theorem own : ownKnob Try.prog.godebug = none := by kernel_rfl
theorem laidOut : laidOutB Try.prog = true := by kernel_rfl
theorem flatE3 : FlatI Try.prog 3 1 := flat1 Try.underlying3
theorem cellsE3 : Try.prog.cellsOf 3 = 1 := by kernel_rfl
theorem cellsA22 : Try.prog.cellsOf 22 = 9 * 1 := by kernel_rfl
theorem flat3 : FlatI Try.prog 3 (Try.prog.cellsOf 3) := by rw [show Try.prog.cellsOf 3 = 1 by kernel_rfl]; exact flat1 Try.underlying3
theorem cells24 : Try.prog.cellsOf 24 = 3 := by kernel_rfl
theorem flat22 : FlatI Try.prog 22 (Try.prog.cellsOf 22) := by rw [show Try.prog.cellsOf 22 = 9 by kernel_rfl]; exact flatA Try.underlying22 cellsA22 cellsE3 flatE3
theorem flat24 : FlatI Try.prog 24 (Try.prog.cellsOf 24) := by rw [show Try.prog.cellsOf 24 = 3 by kernel_rfl]; exact flatS Try.underlying24 cells24 (by exact ⟨by kernel_rfl, flat3, ⟨by kernel_rfl, flat3, ⟨by kernel_rfl, flat3, by unfold FlatFs; kernel_rfl⟩⟩⟩)
theorem cells26 : Try.prog.cellsOf 26 = 12 := by kernel_rfl
theorem flat26_ : FlatI Try.prog 26 12 := flatS Try.underlying26 cells26 (by exact ⟨by kernel_rfl, flat22, ⟨by kernel_rfl, flat24, by unfold FlatFs; kernel_rfl⟩⟩)
theorem flat24_ : FlatI Try.prog 24 3 := flatS Try.underlying24 cells24 (by exact ⟨by kernel_rfl, flat3, ⟨by kernel_rfl, flat3, ⟨by kernel_rfl, flat3, by unfold FlatFs; kernel_rfl⟩⟩⟩)
set_option maxHeartbeats 8000000 in
theorem walk (w : World) (a0_0 a0_1 a0_2 a0_3 a0_4 a0_5 a0_6 a0_7 a0_8 a0_9 a0_10 a0_11 : Int) (w0_0 : (Lit.int .i64 a0_0).wf = true) (w0_1 : (Lit.int .i64 a0_1).wf = true) (w0_2 : (Lit.int .i64 a0_2).wf = true) (w0_3 : (Lit.int .i64 a0_3).wf = true) (w0_4 : (Lit.int .i64 a0_4).wf = true) (w0_5 : (Lit.int .i64 a0_5).wf = true) (w0_6 : (Lit.int .i64 a0_6).wf = true) (w0_7 : (Lit.int .i64 a0_7).wf = true) (w0_8 : (Lit.int .i64 a0_8).wf = true) (w0_9 : (Lit.int .i64 a0_9).wf = true) (w0_10 : (Lit.int .i64 a0_10).wf = true) (w0_11 : (Lit.int .i64 a0_11).wf = true) (a1_0 a1_1 a1_2 : Int) (w1_0 : (Lit.int .i64 a1_0).wf = true) (w1_1 : (Lit.int .i64 a1_1).wf = true) (w1_2 : (Lit.int .i64 a1_2).wf = true) :
    Calls Try.prog 5 #[.agg #[.int .i64 a0_0, .int .i64 a0_1, .int .i64 a0_2, .int .i64 a0_3, .int .i64 a0_4, .int .i64 a0_5, .int .i64 a0_6, .int .i64 a0_7, .int .i64 a0_8, .int .i64 a0_9, .int .i64 a0_10, .int .i64 a0_11], .agg #[.int .i64 a1_0, .int .i64 a1_1, .int .i64 a1_2]] w fun e w' => e = .returned (.bool true) ∧ Below w.heap.size w w' := by
  obtain ⟨d0, e0⟩ : ∃ d, d = apV (okT [a0_0, a0_1, a0_2, a0_3, a0_4, a0_5, a0_6, a0_7, a0_8] a0_9 a0_10 a0_11) (apP a0_0 a0_1 a0_2 a1_0 a1_1 a1_2 a0_9) a1_0 := ⟨_, rfl⟩
  obtain ⟨d1, e1⟩ : ∃ d, d = apV (okT [a0_0, a0_1, a0_2, a0_3, a0_4, a0_5, a0_6, a0_7, a0_8] a0_9 a0_10 a0_11) (apP a0_3 a0_4 a0_5 a1_0 a1_1 a1_2 a0_10) a1_1 := ⟨_, rfl⟩
  obtain ⟨d2, e2⟩ : ∃ d, d = apV (okT [a0_0, a0_1, a0_2, a0_3, a0_4, a0_5, a0_6, a0_7, a0_8] a0_9 a0_10 a0_11) (apP a0_6 a0_7 a0_8 a1_0 a1_1 a1_2 a0_11) a1_2 := ⟨_, rfl⟩
  have C1 : ∀ w : World, Calls Try.prog 16 #[tr a0_0 a0_1 a0_2 a0_3 a0_4 a0_5 a0_6 a0_7 a0_8 a0_9 a0_10 a0_11, vec (a1_0) (a1_1) (a1_2)] w (VecOut d0 d1 d2 w) := fun w => by rw [e0, e1, e2]; exact sApply_any a0_0 a0_1 a0_2 a0_3 a0_4 a0_5 a0_6 a0_7 a0_8 a0_9 a0_10 a0_11 a1_0 a1_1 a1_2 w
  have C2 : ∀ w : World, Calls Try.prog 18 #[tr a0_0 a0_1 a0_2 a0_3 a0_4 a0_5 a0_6 a0_7 a0_8 a0_9 a0_10 a0_11, vec (a1_0) (a1_1) (a1_2)] w (VecOut d0 d1 d2 w) := fun w => by rw [e0, e1, e2]; exact apply_any a0_0 a0_1 a0_2 a0_3 a0_4 a0_5 a0_6 a0_7 a0_8 a0_9 a0_10 a0_11 a1_0 a1_1 a1_2 w
  clear e0 e1 e2
  have HT : Held w ((w.alloc (.cells #[.int .i64 a0_0, .int .i64 a0_1, .int .i64 a0_2, .int .i64 a0_3, .int .i64 a0_4, .int .i64 a0_5, .int .i64 a0_6, .int .i64 a0_7, .int .i64 a0_8, .int .i64 a0_9, .int .i64 a0_10, .int .i64 a0_11] 26)).alloc (.cells #[.int .i64 a1_0, .int .i64 a1_1, .int .i64 a1_2] 24)) [(w.heap.size + 1, [.int .i64 a1_0, .int .i64 a1_1, .int .i64 a1_2]), (w.heap.size, [.int .i64 a0_0, .int .i64 a0_1, .int .i64 a0_2, .int .i64 a0_3, .int .i64 a0_4, .int .i64 a0_5, .int .i64 a0_6, .int .i64 a0_7, .int .i64 a0_8, .int .i64 a0_9, .int .i64 a0_10, .int .i64 a0_11])] := by
    have h := ((Held.nil w).new #[.int .i64 a0_0, .int .i64 a0_1, .int .i64 a0_2, .int .i64 a0_3, .int .i64 a0_4, .int .i64 a0_5, .int .i64 a0_6, .int .i64 a0_7, .int .i64 a0_8, .int .i64 a0_9, .int .i64 a0_10, .int .i64 a0_11] 26).new #[.int .i64 a1_0, .int .i64 a1_1, .int .i64 a1_2] 24
    simpa only [World.size_alloc] using h
  have HC : ∀ W, Held w W [(w.heap.size + 1, [.int .i64 a1_0, .int .i64 a1_1, .int .i64 a1_2]), (w.heap.size, [.int .i64 a0_0, .int .i64 a0_1, .int .i64 a0_2, .int .i64 a0_3, .int .i64 a0_4, .int .i64 a0_5, .int .i64 a0_6, .int .i64 a0_7, .int .i64 a0_8, .int .i64 a0_9, .int .i64 a0_10, .int .i64 a0_11])] → (W.cell? ⟨w.heap.size, 0, none⟩ = some (.int .i64 a0_0) ∧ W.cell? ⟨w.heap.size, 1, none⟩ = some (.int .i64 a0_1) ∧ W.cell? ⟨w.heap.size, 2, none⟩ = some (.int .i64 a0_2) ∧ W.cell? ⟨w.heap.size, 3, none⟩ = some (.int .i64 a0_3) ∧ W.cell? ⟨w.heap.size, 4, none⟩ = some (.int .i64 a0_4) ∧ W.cell? ⟨w.heap.size, 5, none⟩ = some (.int .i64 a0_5) ∧ W.cell? ⟨w.heap.size, 6, none⟩ = some (.int .i64 a0_6) ∧ W.cell? ⟨w.heap.size, 7, none⟩ = some (.int .i64 a0_7) ∧ W.cell? ⟨w.heap.size, 8, none⟩ = some (.int .i64 a0_8) ∧ W.cell? ⟨w.heap.size, 9, none⟩ = some (.int .i64 a0_9) ∧ W.cell? ⟨w.heap.size, 10, none⟩ = some (.int .i64 a0_10) ∧ W.cell? ⟨w.heap.size, 11, none⟩ = some (.int .i64 a0_11) ∧ W.cell? ⟨w.heap.size + 1, 0, none⟩ = some (.int .i64 a1_0) ∧ W.cell? ⟨w.heap.size + 1, 1, none⟩ = some (.int .i64 a1_1) ∧ W.cell? ⟨w.heap.size + 1, 2, none⟩ = some (.int .i64 a1_2)) := fun W h => ⟨(h.box 1).c 0, (h.box 1).c 1, (h.box 1).c 2, (h.box 1).c 3, (h.box 1).c 4, (h.box 1).c 5, (h.box 1).c 6, (h.box 1).c 7, (h.box 1).c 8, (h.box 1).c 9, (h.box 1).c 10, (h.box 1).c 11, (h.box 0).c 0, (h.box 0).c 1, (h.box 0).c 2⟩
  have hz0 := (HT.box 0).lt
  have hz1 := (HT.box 1).lt
  go_enter Try.func5, Try.ntmps5
  go_upto_region 1 with fail
  go_cut [5] (fun s wx => ∃ g : Nat, s = .pointer (some ⟨g, 0, none⟩) ∧ Mbox wx g [.int .i64 d0, .int .i64 d1, .int .i64 d2] ∧ Held w wx [(w.heap.size + 1, [.int .i64 a1_0, .int .i64 a1_1, .int .i64 a1_2]), (w.heap.size, [.int .i64 a0_0, .int .i64 a0_1, .int .i64 a0_2, .int .i64 a0_3, .int .i64 a0_4, .int .i64 a0_5, .int .i64 a0_6, .int .i64 a0_7, .int .i64 a0_8, .int .i64 a0_9, .int .i64 a0_10, .int .i64 a0_11])])
  case first =>
    go_region_held3 (fun w' => w'.cell? ⟨w.heap.size, 0, none⟩ = some (.int .i64 a0_0) ∧ w'.cell? ⟨w.heap.size, 1, none⟩ = some (.int .i64 a0_1) ∧ w'.cell? ⟨w.heap.size, 2, none⟩ = some (.int .i64 a0_2) ∧ w'.cell? ⟨w.heap.size, 3, none⟩ = some (.int .i64 a0_3) ∧ w'.cell? ⟨w.heap.size, 4, none⟩ = some (.int .i64 a0_4) ∧ w'.cell? ⟨w.heap.size, 5, none⟩ = some (.int .i64 a0_5) ∧ w'.cell? ⟨w.heap.size, 6, none⟩ = some (.int .i64 a0_6) ∧ w'.cell? ⟨w.heap.size, 7, none⟩ = some (.int .i64 a0_7) ∧ w'.cell? ⟨w.heap.size, 8, none⟩ = some (.int .i64 a0_8) ∧ w'.cell? ⟨w.heap.size, 9, none⟩ = some (.int .i64 a0_9) ∧ w'.cell? ⟨w.heap.size, 10, none⟩ = some (.int .i64 a0_10) ∧ w'.cell? ⟨w.heap.size, 11, none⟩ = some (.int .i64 a0_11) ∧ w'.cell? ⟨w.heap.size + 1, 0, none⟩ = some (.int .i64 a1_0) ∧ w'.cell? ⟨w.heap.size + 1, 1, none⟩ = some (.int .i64 a1_1) ∧ w'.cell? ⟨w.heap.size + 1, 2, none⟩ = some (.int .i64 a1_2))
          (first | (with_reducible exact HC _ HT) | (with_reducible exact HC _ HT.drew) | (with_reducible exact HC _ (HT.alloc _)) | (with_reducible exact HC _ (HT.alloc _).drew) | (with_reducible exact HC _ (HT.far3 (by omega) (by simp <;> omega) _ _ _)))
          (first | (go_at_call 11; refine (toTransform_any _ _ _ _ _ _ _ _ _ _ _ _ _).mono ?_; rintro e w1 ⟨rfl, hb1⟩; (first | (have HT := HT.later hb1) | (have HT := HT.drew.later hb1) | (have HT := (HT.alloc _).later hb1) | (have HT := (HT.alloc _).drew.later hb1)); have hz0 := (HT.box 0).lt; have hz1 := (HT.box 1).lt; (first | (have HG := (Mbox.new3' _ (.int .i64 0) (.int .i64 0) (.int .i64 0) 28).later hb1) | (have HG := (Mbox.new3' _ (.int .i64 0) (.int .i64 0) (.int .i64 0) 28).drew.later hb1) | (have HG := HG.later hb1) | skip); (try simp only [World.size_alloc] at HG); (try (have hg0 := HG.c 0; have gg0 := HG.f 0; have hg1 := HG.c 1; have gg1 := HG.f 1; have hg2 := HG.c 2; have gg2 := HG.f 2))) | (go_at_call 17; refine (toVec_any _ _ _ _).mono ?_; rintro e w1 ⟨rfl, hb1⟩; (first | (have HT := HT.later hb1) | (have HT := HT.drew.later hb1) | (have HT := (HT.alloc _).later hb1) | (have HT := (HT.alloc _).drew.later hb1)); have hz0 := (HT.box 0).lt; have hz1 := (HT.box 1).lt; (first | (have HG := (Mbox.new3' _ (.int .i64 0) (.int .i64 0) (.int .i64 0) 28).later hb1) | (have HG := (Mbox.new3' _ (.int .i64 0) (.int .i64 0) (.int .i64 0) 28).drew.later hb1) | (have HG := HG.later hb1) | skip); (try simp only [World.size_alloc] at HG); (try (have hg0 := HG.c 0; have gg0 := HG.f 0; have hg1 := HG.c 1; have gg1 := HG.f 1; have hg2 := HG.c 2; have gg2 := HG.f 2))) | (go_at_call 16; refine (C1 _).mono ?_; rintro e w1 ⟨rfl, hb1⟩; (first | (have HT := HT.later hb1) | (have HT := HT.drew.later hb1) | (have HT := (HT.alloc _).later hb1) | (have HT := (HT.alloc _).drew.later hb1)); have hz0 := (HT.box 0).lt; have hz1 := (HT.box 1).lt; (first | (have HG := (Mbox.new3' _ (.int .i64 0) (.int .i64 0) (.int .i64 0) 28).later hb1) | (have HG := (Mbox.new3' _ (.int .i64 0) (.int .i64 0) (.int .i64 0) 28).drew.later hb1) | (have HG := HG.later hb1) | skip); (try simp only [World.size_alloc] at HG); (try (have hg0 := HG.c 0; have gg0 := HG.f 0; have hg1 := HG.c 1; have gg1 := HG.f 1; have hg2 := HG.c 2; have gg2 := HG.f 2))))
    all_goals (go_wp2_with fail; go_meet)
    all_goals (first | with_reducible exact ⟨_, rfl, Mbox.new3' _ _ _ _ _, HT.alloc _⟩ | with_reducible exact ⟨_, rfl, HG.put3 _ _ _, HT.far3 (by omega) (by simp <;> omega) _ _ _⟩)
  case rest =>
    obtain ⟨g, rfl, HV, HT⟩ := hcut
    have HT := HT.cons HV
    clear HC hz0 hz1 HV
    have HC : ∀ W, Held w W ((g, [.int .i64 d0, .int .i64 d1, .int .i64 d2]) :: [(w.heap.size + 1, [.int .i64 a1_0, .int .i64 a1_1, .int .i64 a1_2]), (w.heap.size, [.int .i64 a0_0, .int .i64 a0_1, .int .i64 a0_2, .int .i64 a0_3, .int .i64 a0_4, .int .i64 a0_5, .int .i64 a0_6, .int .i64 a0_7, .int .i64 a0_8, .int .i64 a0_9, .int .i64 a0_10, .int .i64 a0_11])]) → (W.cell? ⟨w.heap.size, 0, none⟩ = some (.int .i64 a0_0) ∧ W.cell? ⟨w.heap.size, 1, none⟩ = some (.int .i64 a0_1) ∧ W.cell? ⟨w.heap.size, 2, none⟩ = some (.int .i64 a0_2) ∧ W.cell? ⟨w.heap.size, 3, none⟩ = some (.int .i64 a0_3) ∧ W.cell? ⟨w.heap.size, 4, none⟩ = some (.int .i64 a0_4) ∧ W.cell? ⟨w.heap.size, 5, none⟩ = some (.int .i64 a0_5) ∧ W.cell? ⟨w.heap.size, 6, none⟩ = some (.int .i64 a0_6) ∧ W.cell? ⟨w.heap.size, 7, none⟩ = some (.int .i64 a0_7) ∧ W.cell? ⟨w.heap.size, 8, none⟩ = some (.int .i64 a0_8) ∧ W.cell? ⟨w.heap.size, 9, none⟩ = some (.int .i64 a0_9) ∧ W.cell? ⟨w.heap.size, 10, none⟩ = some (.int .i64 a0_10) ∧ W.cell? ⟨w.heap.size, 11, none⟩ = some (.int .i64 a0_11) ∧ W.cell? ⟨w.heap.size + 1, 0, none⟩ = some (.int .i64 a1_0) ∧ W.cell? ⟨w.heap.size + 1, 1, none⟩ = some (.int .i64 a1_1) ∧ W.cell? ⟨w.heap.size + 1, 2, none⟩ = some (.int .i64 a1_2)) := fun W h => ⟨(h.box 2).c 0, (h.box 2).c 1, (h.box 2).c 2, (h.box 2).c 3, (h.box 2).c 4, (h.box 2).c 5, (h.box 2).c 6, (h.box 2).c 7, (h.box 2).c 8, (h.box 2).c 9, (h.box 2).c 10, (h.box 2).c 11, (h.box 1).c 0, (h.box 1).c 1, (h.box 1).c 2⟩
    go_upto_region 2 with fail
    go_cut [6] (fun s wx => ∃ h : Nat, s = .pointer (some ⟨h, 0, none⟩) ∧ Mbox wx h [.int .i64 d0, .int .i64 d1, .int .i64 d2] ∧ Held w wx ((g, [.int .i64 d0, .int .i64 d1, .int .i64 d2]) :: [(w.heap.size + 1, [.int .i64 a1_0, .int .i64 a1_1, .int .i64 a1_2]), (w.heap.size, [.int .i64 a0_0, .int .i64 a0_1, .int .i64 a0_2, .int .i64 a0_3, .int .i64 a0_4, .int .i64 a0_5, .int .i64 a0_6, .int .i64 a0_7, .int .i64 a0_8, .int .i64 a0_9, .int .i64 a0_10, .int .i64 a0_11])]))
    case first =>
      have hz0 := (HT.box 0).lt
      have hz1 := (HT.box 1).lt
      have hz2 := (HT.box 2).lt
      go_region_held3 (fun w' => w'.cell? ⟨w.heap.size, 0, none⟩ = some (.int .i64 a0_0) ∧ w'.cell? ⟨w.heap.size, 1, none⟩ = some (.int .i64 a0_1) ∧ w'.cell? ⟨w.heap.size, 2, none⟩ = some (.int .i64 a0_2) ∧ w'.cell? ⟨w.heap.size, 3, none⟩ = some (.int .i64 a0_3) ∧ w'.cell? ⟨w.heap.size, 4, none⟩ = some (.int .i64 a0_4) ∧ w'.cell? ⟨w.heap.size, 5, none⟩ = some (.int .i64 a0_5) ∧ w'.cell? ⟨w.heap.size, 6, none⟩ = some (.int .i64 a0_6) ∧ w'.cell? ⟨w.heap.size, 7, none⟩ = some (.int .i64 a0_7) ∧ w'.cell? ⟨w.heap.size, 8, none⟩ = some (.int .i64 a0_8) ∧ w'.cell? ⟨w.heap.size, 9, none⟩ = some (.int .i64 a0_9) ∧ w'.cell? ⟨w.heap.size, 10, none⟩ = some (.int .i64 a0_10) ∧ w'.cell? ⟨w.heap.size, 11, none⟩ = some (.int .i64 a0_11) ∧ w'.cell? ⟨w.heap.size + 1, 0, none⟩ = some (.int .i64 a1_0) ∧ w'.cell? ⟨w.heap.size + 1, 1, none⟩ = some (.int .i64 a1_1) ∧ w'.cell? ⟨w.heap.size + 1, 2, none⟩ = some (.int .i64 a1_2))
          (first | (with_reducible exact HC _ HT) | (with_reducible exact HC _ HT.drew) | (with_reducible exact HC _ (HT.alloc _)) | (with_reducible exact HC _ (HT.alloc _).drew) | (with_reducible exact HC _ (HT.far3 (by omega) (by simp <;> omega) _ _ _)))
          (first | (go_at_call 11; refine (toTransform_any _ _ _ _ _ _ _ _ _ _ _ _ _).mono ?_; rintro e w1 ⟨rfl, hb1⟩; (first | (have HT := HT.later hb1) | (have HT := HT.drew.later hb1) | (have HT := (HT.alloc _).later hb1) | (have HT := (HT.alloc _).drew.later hb1)); have hz0 := (HT.box 0).lt; have hz1 := (HT.box 1).lt; have hz2 := (HT.box 2).lt; (first | (have HG := (Mbox.new3' _ (.int .i64 0) (.int .i64 0) (.int .i64 0) 28).later hb1) | (have HG := (Mbox.new3' _ (.int .i64 0) (.int .i64 0) (.int .i64 0) 28).drew.later hb1) | (have HG := HG.later hb1) | skip); (try simp only [World.size_alloc] at HG); (try (have hg0 := HG.c 0; have gg0 := HG.f 0; have hg1 := HG.c 1; have gg1 := HG.f 1; have hg2 := HG.c 2; have gg2 := HG.f 2))) | (go_at_call 17; refine (toVec_any _ _ _ _).mono ?_; rintro e w1 ⟨rfl, hb1⟩; (first | (have HT := HT.later hb1) | (have HT := HT.drew.later hb1) | (have HT := (HT.alloc _).later hb1) | (have HT := (HT.alloc _).drew.later hb1)); have hz0 := (HT.box 0).lt; have hz1 := (HT.box 1).lt; have hz2 := (HT.box 2).lt; (first | (have HG := (Mbox.new3' _ (.int .i64 0) (.int .i64 0) (.int .i64 0) 28).later hb1) | (have HG := (Mbox.new3' _ (.int .i64 0) (.int .i64 0) (.int .i64 0) 28).drew.later hb1) | (have HG := HG.later hb1) | skip); (try simp only [World.size_alloc] at HG); (try (have hg0 := HG.c 0; have gg0 := HG.f 0; have hg1 := HG.c 1; have gg1 := HG.f 1; have hg2 := HG.c 2; have gg2 := HG.f 2))) | (go_at_call 18; refine (C2 _).mono ?_; rintro e w1 ⟨rfl, hb1⟩; (first | (have HT := HT.later hb1) | (have HT := HT.drew.later hb1) | (have HT := (HT.alloc _).later hb1) | (have HT := (HT.alloc _).drew.later hb1)); have hz0 := (HT.box 0).lt; have hz1 := (HT.box 1).lt; have hz2 := (HT.box 2).lt; (first | (have HG := (Mbox.new3' _ (.int .i64 0) (.int .i64 0) (.int .i64 0) 28).later hb1) | (have HG := (Mbox.new3' _ (.int .i64 0) (.int .i64 0) (.int .i64 0) 28).drew.later hb1) | (have HG := HG.later hb1) | skip); (try simp only [World.size_alloc] at HG); (try (have hg0 := HG.c 0; have gg0 := HG.f 0; have hg1 := HG.c 1; have gg1 := HG.f 1; have hg2 := HG.c 2; have gg2 := HG.f 2))))
      all_goals (go_wp2_with fail; go_meet)
      all_goals (first | with_reducible exact ⟨_, rfl, Mbox.new3' _ _ _ _ _, HT.alloc _⟩ | with_reducible exact ⟨_, rfl, HG.put3 _ _ _, HT.far3 (by omega) (by simp <;> omega) _ _ _⟩)
    case rest =>
      obtain ⟨h, rfl, HU, HT⟩ := hcut
      have c0 := HU.c 0
      have c1 := HU.c 1
      have c2 := HU.c 2
      have u0 := (HT.box 0).c 0
      have u1 := (HT.box 0).c 1
      have u2 := (HT.box 0).c 2
      go_wp2_with fail
      refine (eqVec_same _ _ _ _).mono ?_
      rintro e w1 ⟨rfl, hb1⟩
      have HT := HT.later hb1
      clear c0 c1 c2 u0 u1 u2 hb1 HU HC C1 C2
      go_wp2_with fail
      go_ret
      exact ⟨rfl, HT.below⟩

set_option maxRecDepth 100000 in
theorem lifted (os : Os) (started : os.Started) (H : Type) (enc : TypeId × Value → H) :
    ReturnsInHanded {} Try.checked os 5 .any (Rows.fnExactApplySpec.pre6 enc Try.prog Try.f5 Rows.fnExactApplyRow.domain false) (Rows.fnExactApplySpec.post enc Try.prog Try.f5 false true false false) := by
  refine returnsInHanded_of_change (C := Try.checked) own started (by kernel_rfl) Try.func5
    (ChangeSpec.witness6 (enc := enc) (C := Try.checked) false ⟨#[], #[.agg #[.int .i64 0, .int .i64 0, .int .i64 0, .int .i64 0, .int .i64 0, .int .i64 0, .int .i64 0, .int .i64 0, .int .i64 0, .int .i64 0, .int .i64 0, .int .i64 0], .agg #[.int .i64 0, .int .i64 0, .int .i64 0]], []⟩ 8 (by kernel_rfl) (by kernel_rfl) (by kernel_rfl) (by kernel_rfl)) ?_
  intro W base args ds gs before hval0 hW hcnd _
  have hval : ∀ (j : Nat) t v, Try.f5.params[j]? = some t → args[j]? = some v → Value.okWide Try.prog W .any base t v := hval0
  have hW' := hW
  obtain ⟨p, q, hA0, hV, rfl, hfz, hnd⟩ := hW
  have hA : DataW.TrodAll enc Try.prog W 0 (fun _ => true) true Try.f5.params.toList args.toList ds p := hA0
  rw [Try.params5] at hA hval
  obtain ⟨v0, vs0, d0, ds0, p0, q0, hargs, rfl, rfl, h0, r1000⟩ := trodAll_cons hA
  obtain ⟨v1, vs1, d1, ds1, p1, q1, rfl, rfl, rfl, h1, r1001⟩ := trodAll_cons r1000
  obtain ⟨rfl, rfl, rfl⟩ := trodAll_nil r1001
  obtain rfl : args = #[v0, v1] := by cases args; simp_all
  obtain ⟨rfl, rfl⟩ := trodVars_none hV
  have k0 := h0
  have lt0 : ∀ x ∈ p0, x.block < W.heap.size := by obtain ⟨m, hm⟩ := k0; exact DataW.trod_lt m _ _ _ hm
  have hv0 := hval 0 26 v0 rfl rfl
  obtain ⟨zs0, hzs0, rfl, wzs0⟩ := open_flat (P := Try.prog) (t := 26) (n := 12) Try.underlying26 flat26_ hv0 h0
  obtain ⟨a0_0, a0_1, a0_2, a0_3, a0_4, a0_5, a0_6, a0_7, a0_8, a0_9, a0_10, a0_11, rfl⟩ := list12 hzs0
  have k1 := h1
  have lt1 : ∀ x ∈ p1, x.block < W.heap.size := by obtain ⟨m, hm⟩ := k1; exact DataW.trod_lt m _ _ _ hm
  have hv1 := hval 1 24 v1 rfl rfl
  obtain ⟨zs1, hzs1, rfl, wzs1⟩ := open_flat (P := Try.prog) (t := 24) (n := 3) Try.underlying24 flat24_ hv1 h1
  obtain ⟨a1_0, a1_1, a1_2, rfl⟩ := list3 hzs1
  clear hA0
  refine (walk W a0_0 a0_1 a0_2 a0_3 a0_4 a0_5 a0_6 a0_7 a0_8 a0_9 a0_10 a0_11 (wzs0 _ (by simp)) (wzs0 _ (by simp)) (wzs0 _ (by simp)) (wzs0 _ (by simp)) (wzs0 _ (by simp)) (wzs0 _ (by simp)) (wzs0 _ (by simp)) (wzs0 _ (by simp)) (wzs0 _ (by simp)) (wzs0 _ (by simp)) (wzs0 _ (by simp)) (wzs0 _ (by simp)) a1_0 a1_1 a1_2 (wzs1 _ (by simp)) (wzs1 _ (by simp)) (wzs1 _ (by simp))).mono fun e W' ⟨he, bel⟩ => ?_
  subst he
  exact ⟨_, rfl, _, _, _, [], _, [], hW', trodAll_mk1 (shut_bool Try.underlying4 _), (trodAll_cons_mk (Below.trod laidOut (by kernel_rfl) (of_decide_eq_true (by kernel_rfl)) k0 bel lt0) (trodAll_cons_mk (Below.trod laidOut (by kernel_rfl) (of_decide_eq_true (by kernel_rfl)) k1 bel lt1) trodAll_mk0)), rfl, bel.frame _, fun h => by cases h⟩

theorem proved : Rows.FnExactApplySaid :=
  OpenClaim.holds_of_wide 5 Try.f5 rfl rfl rfl rfl rfl rfl rfl ⟨rfl, rfl, rfl, rfl, rfl⟩ rfl rfl rfl rfl rfl (by kernel_rfl) Try.func5 (by kernel_rfl)
    (of_decide_eq_true (by kernel_rfl)) (by unfold Func.isWrapper; first | (rw [if_pos (by decide +kernel)]; kernel_rfl) | (rw [if_neg (by decide +kernel)]; exact ⟨rfl, rfl⟩))
    (fun os started H enc _ => lifted os started H enc)
#print axioms proved
end Go.Proofs.Ytjneionmliknhaa.fnExactApply
