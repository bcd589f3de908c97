/-
  Proved: the law FnExactUnionBox returns true for every input and its arguments read behind the call as they read before. Conditions: none of our own; those of the given row alone.
-/
import Derived.Test.YtjnebohcffeneaaRows
import Derived.WalkKit
import Derived.ProofKit
import Derived.OpenShut
import Derived.ShutString
import Derived.SliceStrings
import Derived.ChangeOld
import Derived.Below
import Derived.Test.YtjnebohcffeneaaFlat
import Derived.Test.YtjnebohcffeneaaVbox
import Derived.Test.YtjnebohcffeneaaVec
import Derived.Test.YtjnebohcffeneaaHeld
import Derived.Test.YtjnebohcffeneaaBox
import Derived.Test.YtjnebohcffeneaaBUnion
import Derived.Deep.RegionHeld3
import Derived.Deep.DeepCutAuto
import Derived.Handy
import Derived.Test.YtjnebohcffeneaaMem
namespace Go.Proofs.Ytjnebohcffeneaa.fnExactUnionBox
open Go.ChangeShapes Go.WideShapes Go.ChangeAt Go.RowKit
open Go.ChangeMaps (open_string shut_string)
set_option linter.unusedVariables false

theorem own : ownKnob Try.prog.godebug = none := by kernel_rfl
theorem laidOut : laidOutB Try.prog = true := by kernel_rfl
theorem flat3 : FlatI Try.prog 3 (Try.prog.cellsOf 3) := by rw [show Try.prog.cellsOf 3 = 1 by kernel_rfl]; exact flat1 Try.underlying3
theorem cells38 : Try.prog.cellsOf 38 = 3 := by kernel_rfl
theorem flat38 : FlatI Try.prog 38 (Try.prog.cellsOf 38) := by rw [show Try.prog.cellsOf 38 = 3 by kernel_rfl]; exact flatS Try.underlying38 cells38 (by exact ⟨by kernel_rfl, flat3, ⟨by kernel_rfl, flat3, ⟨by kernel_rfl, flat3, by unfold FlatFs; kernel_rfl⟩⟩⟩)
theorem cells40 : Try.prog.cellsOf 40 = 6 := by kernel_rfl
theorem flat40_ : FlatI Try.prog 40 6 := flatS Try.underlying40 cells40 (by exact ⟨by kernel_rfl, flat38, ⟨by kernel_rfl, flat38, by unfold FlatFs; kernel_rfl⟩⟩)
set_option maxHeartbeats 4000000 in
theorem walk (w : World) (a0_0 a0_1 a0_2 a0_3 a0_4 a0_5 : Int) (w0_0 : (Lit.int .i64 a0_0).wf = true) (w0_1 : (Lit.int .i64 a0_1).wf = true) (w0_2 : (Lit.int .i64 a0_2).wf = true) (w0_3 : (Lit.int .i64 a0_3).wf = true) (w0_4 : (Lit.int .i64 a0_4).wf = true) (w0_5 : (Lit.int .i64 a0_5).wf = true) (a1_0 a1_1 a1_2 a1_3 a1_4 a1_5 : Int) (w1_0 : (Lit.int .i64 a1_0).wf = true) (w1_1 : (Lit.int .i64 a1_1).wf = true) (w1_2 : (Lit.int .i64 a1_2).wf = true) (w1_3 : (Lit.int .i64 a1_3).wf = true) (w1_4 : (Lit.int .i64 a1_4).wf = true) (w1_5 : (Lit.int .i64 a1_5).wf = true) :
    Calls Try.prog 6 #[.agg #[.int .i64 a0_0, .int .i64 a0_1, .int .i64 a0_2, .int .i64 a0_3, .int .i64 a0_4, .int .i64 a0_5], .agg #[.int .i64 a1_0, .int .i64 a1_1, .int .i64 a1_2, .int .i64 a1_3, .int .i64 a1_4, .int .i64 a1_5]] w fun e w' => e = .returned (.bool true) ∧ Below w.heap.size w w' := by
  have HT : Held w ((w.alloc (.cells #[.int .i64 a0_0, .int .i64 a0_1, .int .i64 a0_2, .int .i64 a0_3, .int .i64 a0_4, .int .i64 a0_5] 40)).alloc (.cells #[.int .i64 a1_0, .int .i64 a1_1, .int .i64 a1_2, .int .i64 a1_3, .int .i64 a1_4, .int .i64 a1_5] 40)) [(w.heap.size + 1, [.int .i64 a1_0, .int .i64 a1_1, .int .i64 a1_2, .int .i64 a1_3, .int .i64 a1_4, .int .i64 a1_5]), (w.heap.size, [.int .i64 a0_0, .int .i64 a0_1, .int .i64 a0_2, .int .i64 a0_3, .int .i64 a0_4, .int .i64 a0_5])] := by
    have h := ((Held.nil w).new #[.int .i64 a0_0, .int .i64 a0_1, .int .i64 a0_2, .int .i64 a0_3, .int .i64 a0_4, .int .i64 a0_5] 40).new #[.int .i64 a1_0, .int .i64 a1_1, .int .i64 a1_2, .int .i64 a1_3, .int .i64 a1_4, .int .i64 a1_5] 40
    simpa only [World.size_alloc] using h
  have HC : ∀ W, Held w W [(w.heap.size + 1, [.int .i64 a1_0, .int .i64 a1_1, .int .i64 a1_2, .int .i64 a1_3, .int .i64 a1_4, .int .i64 a1_5]), (w.heap.size, [.int .i64 a0_0, .int .i64 a0_1, .int .i64 a0_2, .int .i64 a0_3, .int .i64 a0_4, .int .i64 a0_5])] → (W.cell? ⟨w.heap.size, 0, none⟩ = some (.int .i64 a0_0) ∧ W.cell? ⟨w.heap.size, 1, none⟩ = some (.int .i64 a0_1) ∧ W.cell? ⟨w.heap.size, 2, none⟩ = some (.int .i64 a0_2) ∧ W.cell? ⟨w.heap.size, 3, none⟩ = some (.int .i64 a0_3) ∧ W.cell? ⟨w.heap.size, 4, none⟩ = some (.int .i64 a0_4) ∧ W.cell? ⟨w.heap.size, 5, none⟩ = some (.int .i64 a0_5) ∧ W.cell? ⟨w.heap.size + 1, 0, none⟩ = some (.int .i64 a1_0) ∧ W.cell? ⟨w.heap.size + 1, 1, none⟩ = some (.int .i64 a1_1) ∧ W.cell? ⟨w.heap.size + 1, 2, none⟩ = some (.int .i64 a1_2) ∧ W.cell? ⟨w.heap.size + 1, 3, none⟩ = some (.int .i64 a1_3) ∧ W.cell? ⟨w.heap.size + 1, 4, none⟩ = some (.int .i64 a1_4) ∧ W.cell? ⟨w.heap.size + 1, 5, none⟩ = some (.int .i64 a1_5)) := fun W h => ⟨(h.box 1).c 0, (h.box 1).c 1, (h.box 1).c 2, (h.box 1).c 3, (h.box 1).c 4, (h.box 1).c 5, (h.box 0).c 0, (h.box 0).c 1, (h.box 0).c 2, (h.box 0).c 3, (h.box 0).c 4, (h.box 0).c 5⟩
  have hz0 := (HT.box 0).lt
  have hz1 := (HT.box 1).lt
  go_enter Try.func6, Try.ntmps6
  go_upto_region 1 with fail
  go_cut [5] (fun s wx => ∃ g : Nat, s = .pointer (some ⟨g, 0, none⟩) ∧ Mbox wx g [.int .i64 (mnP (cc a0_0) (cc a1_0)), .int .i64 (mnP (cc a0_1) (cc a1_1)), .int .i64 (mnP (cc a0_2) (cc a1_2)), .int .i64 (mxP (cc a0_3) (cc a1_3)), .int .i64 (mxP (cc a0_4) (cc a1_4)), .int .i64 (mxP (cc a0_5) (cc a1_5))] ∧ Held w wx [(w.heap.size + 1, [.int .i64 a1_0, .int .i64 a1_1, .int .i64 a1_2, .int .i64 a1_3, .int .i64 a1_4, .int .i64 a1_5]), (w.heap.size, [.int .i64 a0_0, .int .i64 a0_1, .int .i64 a0_2, .int .i64 a0_3, .int .i64 a0_4, .int .i64 a0_5])])
  case first =>
    go_region_held3 (fun w' => w'.cell? ⟨w.heap.size, 0, none⟩ = some (.int .i64 a0_0) ∧ w'.cell? ⟨w.heap.size, 1, none⟩ = some (.int .i64 a0_1) ∧ w'.cell? ⟨w.heap.size, 2, none⟩ = some (.int .i64 a0_2) ∧ w'.cell? ⟨w.heap.size, 3, none⟩ = some (.int .i64 a0_3) ∧ w'.cell? ⟨w.heap.size, 4, none⟩ = some (.int .i64 a0_4) ∧ w'.cell? ⟨w.heap.size, 5, none⟩ = some (.int .i64 a0_5) ∧ w'.cell? ⟨w.heap.size + 1, 0, none⟩ = some (.int .i64 a1_0) ∧ w'.cell? ⟨w.heap.size + 1, 1, none⟩ = some (.int .i64 a1_1) ∧ w'.cell? ⟨w.heap.size + 1, 2, none⟩ = some (.int .i64 a1_2) ∧ w'.cell? ⟨w.heap.size + 1, 3, none⟩ = some (.int .i64 a1_3) ∧ w'.cell? ⟨w.heap.size + 1, 4, none⟩ = some (.int .i64 a1_4) ∧ w'.cell? ⟨w.heap.size + 1, 5, none⟩ = some (.int .i64 a1_5))
          (first | (with_reducible exact HC _ HT) | (with_reducible exact HC _ HT.drew) | (with_reducible exact HC _ (HT.alloc _)) | (with_reducible exact HC _ (HT.alloc _).drew) | (with_reducible exact HC _ (HT.far6 (by omega) (by simp <;> omega) _ _ _ _ _ _)))
          (first | (go_at_call 18; refine (toBox_any _ _ _ _ _ _ _).mono ?_; rintro e w1 ⟨rfl, hb1⟩; (first | (have HT := HT.later hb1) | (have HT := HT.drew.later hb1) | (have HT := (HT.alloc _).later hb1) | (have HT := (HT.alloc _).drew.later hb1)); have hz0 := (HT.box 0).lt; have hz1 := (HT.box 1).lt; (first | (have HG := (Mbox.new6 _ (.int .i64 0) (.int .i64 0) (.int .i64 0) (.int .i64 0) (.int .i64 0) (.int .i64 0) 26).later hb1) | (have HG := (Mbox.new6 _ (.int .i64 0) (.int .i64 0) (.int .i64 0) (.int .i64 0) (.int .i64 0) (.int .i64 0) 26).drew.later hb1) | (have HG := HG.later hb1) | skip); (try simp only [World.size_alloc] at HG); (try (have hg0 := HG.c 0; have gg0 := HG.f 0; have hg1 := HG.c 1; have gg1 := HG.f 1; have hg2 := HG.c 2; have gg2 := HG.f 2; have hg3 := HG.c 3; have gg3 := HG.f 3; have hg4 := HG.c 4; have gg4 := HG.f 4; have hg5 := HG.c 5; have gg5 := HG.f 5))) | (go_at_call 25; refine (sUnionBox_any _ _ _ _ _ _ _ _ _ _ _ _ _).mono ?_; rintro e w1 ⟨rfl, hb1⟩; (first | (have HT := HT.later hb1) | (have HT := HT.drew.later hb1) | (have HT := (HT.alloc _).later hb1) | (have HT := (HT.alloc _).drew.later hb1)); have hz0 := (HT.box 0).lt; have hz1 := (HT.box 1).lt; (first | (have HG := (Mbox.new6 _ (.int .i64 0) (.int .i64 0) (.int .i64 0) (.int .i64 0) (.int .i64 0) (.int .i64 0) 26).later hb1) | (have HG := (Mbox.new6 _ (.int .i64 0) (.int .i64 0) (.int .i64 0) (.int .i64 0) (.int .i64 0) (.int .i64 0) 26).drew.later hb1) | (have HG := HG.later hb1) | skip); (try simp only [World.size_alloc] at HG); (try (have hg0 := HG.c 0; have gg0 := HG.f 0; have hg1 := HG.c 1; have gg1 := HG.f 1; have hg2 := HG.c 2; have gg2 := HG.f 2; have hg3 := HG.c 3; have gg3 := HG.f 3; have hg4 := HG.c 4; have gg4 := HG.f 4; have hg5 := HG.c 5; have gg5 := HG.f 5))))
    all_goals (go_wp2_with fail; go_meet)
    all_goals (first | with_reducible exact ⟨_, rfl, Mbox.new6 _ _ _ _ _ _ _ _, HT.alloc _⟩ | with_reducible exact ⟨_, rfl, HG.put6 _ _ _ _ _ _, HT.far6 (by omega) (by simp <;> omega) _ _ _ _ _ _⟩)
  case rest =>
    obtain ⟨g, rfl, HV, HT⟩ := hcut
    have HT := HT.cons HV
    clear HC hz0 hz1 HV
    have HC : ∀ W, Held w W ((g, [.int .i64 (mnP (cc a0_0) (cc a1_0)), .int .i64 (mnP (cc a0_1) (cc a1_1)), .int .i64 (mnP (cc a0_2) (cc a1_2)), .int .i64 (mxP (cc a0_3) (cc a1_3)), .int .i64 (mxP (cc a0_4) (cc a1_4)), .int .i64 (mxP (cc a0_5) (cc a1_5))]) :: [(w.heap.size + 1, [.int .i64 a1_0, .int .i64 a1_1, .int .i64 a1_2, .int .i64 a1_3, .int .i64 a1_4, .int .i64 a1_5]), (w.heap.size, [.int .i64 a0_0, .int .i64 a0_1, .int .i64 a0_2, .int .i64 a0_3, .int .i64 a0_4, .int .i64 a0_5])]) → (W.cell? ⟨w.heap.size, 0, none⟩ = some (.int .i64 a0_0) ∧ W.cell? ⟨w.heap.size, 1, none⟩ = some (.int .i64 a0_1) ∧ W.cell? ⟨w.heap.size, 2, none⟩ = some (.int .i64 a0_2) ∧ W.cell? ⟨w.heap.size, 3, none⟩ = some (.int .i64 a0_3) ∧ W.cell? ⟨w.heap.size, 4, none⟩ = some (.int .i64 a0_4) ∧ W.cell? ⟨w.heap.size, 5, none⟩ = some (.int .i64 a0_5) ∧ W.cell? ⟨w.heap.size + 1, 0, none⟩ = some (.int .i64 a1_0) ∧ W.cell? ⟨w.heap.size + 1, 1, none⟩ = some (.int .i64 a1_1) ∧ W.cell? ⟨w.heap.size + 1, 2, none⟩ = some (.int .i64 a1_2) ∧ W.cell? ⟨w.heap.size + 1, 3, none⟩ = some (.int .i64 a1_3) ∧ W.cell? ⟨w.heap.size + 1, 4, none⟩ = some (.int .i64 a1_4) ∧ W.cell? ⟨w.heap.size + 1, 5, none⟩ = some (.int .i64 a1_5)) := fun W h => ⟨(h.box 2).c 0, (h.box 2).c 1, (h.box 2).c 2, (h.box 2).c 3, (h.box 2).c 4, (h.box 2).c 5, (h.box 1).c 0, (h.box 1).c 1, (h.box 1).c 2, (h.box 1).c 3, (h.box 1).c 4, (h.box 1).c 5⟩
    go_upto_region 2 with fail
    go_cut [6] (fun s wx => ∃ h : Nat, s = .pointer (some ⟨h, 0, none⟩) ∧ Mbox wx h [.int .i64 (mnP (cc a0_0) (cc a1_0)), .int .i64 (mnP (cc a0_1) (cc a1_1)), .int .i64 (mnP (cc a0_2) (cc a1_2)), .int .i64 (mxP (cc a0_3) (cc a1_3)), .int .i64 (mxP (cc a0_4) (cc a1_4)), .int .i64 (mxP (cc a0_5) (cc a1_5))] ∧ Held w wx ((g, [.int .i64 (mnP (cc a0_0) (cc a1_0)), .int .i64 (mnP (cc a0_1) (cc a1_1)), .int .i64 (mnP (cc a0_2) (cc a1_2)), .int .i64 (mxP (cc a0_3) (cc a1_3)), .int .i64 (mxP (cc a0_4) (cc a1_4)), .int .i64 (mxP (cc a0_5) (cc a1_5))]) :: [(w.heap.size + 1, [.int .i64 a1_0, .int .i64 a1_1, .int .i64 a1_2, .int .i64 a1_3, .int .i64 a1_4, .int .i64 a1_5]), (w.heap.size, [.int .i64 a0_0, .int .i64 a0_1, .int .i64 a0_2, .int .i64 a0_3, .int .i64 a0_4, .int .i64 a0_5])]))
    case first =>
      have hz0 := (HT.box 0).lt
      have hz1 := (HT.box 1).lt
      have hz2 := (HT.box 2).lt
      go_region_held3 (fun w' => w'.cell? ⟨w.heap.size, 0, none⟩ = some (.int .i64 a0_0) ∧ w'.cell? ⟨w.heap.size, 1, none⟩ = some (.int .i64 a0_1) ∧ w'.cell? ⟨w.heap.size, 2, none⟩ = some (.int .i64 a0_2) ∧ w'.cell? ⟨w.heap.size, 3, none⟩ = some (.int .i64 a0_3) ∧ w'.cell? ⟨w.heap.size, 4, none⟩ = some (.int .i64 a0_4) ∧ w'.cell? ⟨w.heap.size, 5, none⟩ = some (.int .i64 a0_5) ∧ w'.cell? ⟨w.heap.size + 1, 0, none⟩ = some (.int .i64 a1_0) ∧ w'.cell? ⟨w.heap.size + 1, 1, none⟩ = some (.int .i64 a1_1) ∧ w'.cell? ⟨w.heap.size + 1, 2, none⟩ = some (.int .i64 a1_2) ∧ w'.cell? ⟨w.heap.size + 1, 3, none⟩ = some (.int .i64 a1_3) ∧ w'.cell? ⟨w.heap.size + 1, 4, none⟩ = some (.int .i64 a1_4) ∧ w'.cell? ⟨w.heap.size + 1, 5, none⟩ = some (.int .i64 a1_5))
          (first | (with_reducible exact HC _ HT) | (with_reducible exact HC _ HT.drew) | (with_reducible exact HC _ (HT.alloc _)) | (with_reducible exact HC _ (HT.alloc _).drew) | (with_reducible exact HC _ (HT.far6 (by omega) (by simp <;> omega) _ _ _ _ _ _)))
          (first | (go_at_call 18; refine (toBox_any _ _ _ _ _ _ _).mono ?_; rintro e w1 ⟨rfl, hb1⟩; (first | (have HT := HT.later hb1) | (have HT := HT.drew.later hb1) | (have HT := (HT.alloc _).later hb1) | (have HT := (HT.alloc _).drew.later hb1)); have hz0 := (HT.box 0).lt; have hz1 := (HT.box 1).lt; have hz2 := (HT.box 2).lt; (first | (have HG := (Mbox.new6 _ (.int .i64 0) (.int .i64 0) (.int .i64 0) (.int .i64 0) (.int .i64 0) (.int .i64 0) 26).later hb1) | (have HG := (Mbox.new6 _ (.int .i64 0) (.int .i64 0) (.int .i64 0) (.int .i64 0) (.int .i64 0) (.int .i64 0) 26).drew.later hb1) | (have HG := HG.later hb1) | skip); (try simp only [World.size_alloc] at HG); (try (have hg0 := HG.c 0; have gg0 := HG.f 0; have hg1 := HG.c 1; have gg1 := HG.f 1; have hg2 := HG.c 2; have gg2 := HG.f 2; have hg3 := HG.c 3; have gg3 := HG.f 3; have hg4 := HG.c 4; have gg4 := HG.f 4; have hg5 := HG.c 5; have gg5 := HG.f 5))) | (go_at_call 10; refine (unionBox_any _ _ _ _ _ _ _ _ _ _ _ _ _).mono ?_; rintro e w1 ⟨rfl, hb1⟩; (first | (have HT := HT.later hb1) | (have HT := HT.drew.later hb1) | (have HT := (HT.alloc _).later hb1) | (have HT := (HT.alloc _).drew.later hb1)); have hz0 := (HT.box 0).lt; have hz1 := (HT.box 1).lt; have hz2 := (HT.box 2).lt; (first | (have HG := (Mbox.new6 _ (.int .i64 0) (.int .i64 0) (.int .i64 0) (.int .i64 0) (.int .i64 0) (.int .i64 0) 26).later hb1) | (have HG := (Mbox.new6 _ (.int .i64 0) (.int .i64 0) (.int .i64 0) (.int .i64 0) (.int .i64 0) (.int .i64 0) 26).drew.later hb1) | (have HG := HG.later hb1) | skip); (try simp only [World.size_alloc] at HG); (try (have hg0 := HG.c 0; have gg0 := HG.f 0; have hg1 := HG.c 1; have gg1 := HG.f 1; have hg2 := HG.c 2; have gg2 := HG.f 2; have hg3 := HG.c 3; have gg3 := HG.f 3; have hg4 := HG.c 4; have gg4 := HG.f 4; have hg5 := HG.c 5; have gg5 := HG.f 5))))
      all_goals (go_wp2_with fail; go_meet)
      all_goals (first | with_reducible exact ⟨_, rfl, Mbox.new6 _ _ _ _ _ _ _ _, HT.alloc _⟩ | with_reducible exact ⟨_, rfl, HG.put6 _ _ _ _ _ _, HT.far6 (by omega) (by simp <;> omega) _ _ _ _ _ _⟩)
    case rest =>
      obtain ⟨h, rfl, HU, HT⟩ := hcut
      have c0 := HU.c 0
      have c1 := HU.c 1
      have c2 := HU.c 2
      have c3 := HU.c 3
      have c4 := HU.c 4
      have c5 := HU.c 5
      have d0 := (HT.box 0).c 0
      have d1 := (HT.box 0).c 1
      have d2 := (HT.box 0).c 2
      have d3 := (HT.box 0).c 3
      have d4 := (HT.box 0).c 4
      have d5 := (HT.box 0).c 5
      go_wp2_with fail
      refine (eqBox_same _ _ _ _ _ _ _).mono ?_
      rintro e w1 ⟨rfl, hb1⟩
      have HT := HT.later hb1
      clear c0 d0 c1 d1 c2 d2 c3 d3 c4 d4 c5 d5 hb1 HU HC
      go_wp2_with fail
      go_ret
      exact ⟨rfl, HT.below⟩

set_option maxRecDepth 100000 in
theorem lifted (os : Os) (started : os.Started) (H : Type) (enc : TypeId × Value → H) :
    ReturnsInHanded {} Try.checked os 6 .any (Rows.fnExactUnionBoxSpec.pre6 enc Try.prog Try.f6 Rows.fnExactUnionBoxRow.domain false) (Rows.fnExactUnionBoxSpec.post enc Try.prog Try.f6 false true false false) := by
  refine returnsInHanded_of_change (C := Try.checked) own started (by kernel_rfl) Try.func6
    (ChangeSpec.witness6 (enc := enc) (C := Try.checked) false ⟨#[], #[.agg #[.int .i64 0, .int .i64 0, .int .i64 0, .int .i64 0, .int .i64 0, .int .i64 0], .agg #[.int .i64 0, .int .i64 0, .int .i64 0, .int .i64 0, .int .i64 0, .int .i64 0]], []⟩ 8 (by kernel_rfl) (by kernel_rfl) (by kernel_rfl) (by kernel_rfl)) ?_
  intro W base args ds gs before hval0 hW hcnd _
  have hval : ∀ (j : Nat) t v, Try.f6.params[j]? = some t → args[j]? = some v → Value.okWide Try.prog W .any base t v := hval0
  have hW' := hW
  obtain ⟨p, q, hA0, hV, rfl, hfz, hnd⟩ := hW
  have hA : DataW.TrodAll enc Try.prog W 0 (fun _ => true) true Try.f6.params.toList args.toList ds p := hA0
  rw [Try.params6] at hA hval
  obtain ⟨v0, vs0, d0, ds0, p0, q0, hargs, rfl, rfl, h0, r1000⟩ := trodAll_cons hA
  obtain ⟨v1, vs1, d1, ds1, p1, q1, rfl, rfl, rfl, h1, r1001⟩ := trodAll_cons r1000
  obtain ⟨rfl, rfl, rfl⟩ := trodAll_nil r1001
  obtain rfl : args = #[v0, v1] := by cases args; simp_all
  obtain ⟨rfl, rfl⟩ := trodVars_none hV
  have k0 := h0
  have lt0 : ∀ x ∈ p0, x.block < W.heap.size := by obtain ⟨m, hm⟩ := k0; exact DataW.trod_lt m _ _ _ hm
  have hv0 := hval 0 40 v0 rfl rfl
  obtain ⟨zs0, hzs0, rfl, wzs0⟩ := open_flat (P := Try.prog) (t := 40) (n := 6) Try.underlying40 flat40_ hv0 h0
  obtain ⟨a0_0, a0_1, a0_2, a0_3, a0_4, a0_5, rfl⟩ := list6 hzs0
  have k1 := h1
  have lt1 : ∀ x ∈ p1, x.block < W.heap.size := by obtain ⟨m, hm⟩ := k1; exact DataW.trod_lt m _ _ _ hm
  have hv1 := hval 1 40 v1 rfl rfl
  obtain ⟨zs1, hzs1, rfl, wzs1⟩ := open_flat (P := Try.prog) (t := 40) (n := 6) Try.underlying40 flat40_ hv1 h1
  obtain ⟨a1_0, a1_1, a1_2, a1_3, a1_4, a1_5, rfl⟩ := list6 hzs1
  clear hA0
  refine (walk W a0_0 a0_1 a0_2 a0_3 a0_4 a0_5 (wzs0 _ (by simp)) (wzs0 _ (by simp)) (wzs0 _ (by simp)) (wzs0 _ (by simp)) (wzs0 _ (by simp)) (wzs0 _ (by simp)) a1_0 a1_1 a1_2 a1_3 a1_4 a1_5 (wzs1 _ (by simp)) (wzs1 _ (by simp)) (wzs1 _ (by simp)) (wzs1 _ (by simp)) (wzs1 _ (by simp)) (wzs1 _ (by simp))).mono fun e W' ⟨he, bel⟩ => ?_
  subst he
  exact ⟨_, rfl, _, _, _, [], _, [], hW', trodAll_mk1 (shut_bool Try.underlying4 _), (trodAll_cons_mk (Below.trod laidOut (by kernel_rfl) (of_decide_eq_true (by kernel_rfl)) k0 bel lt0) (trodAll_cons_mk (Below.trod laidOut (by kernel_rfl) (of_decide_eq_true (by kernel_rfl)) k1 bel lt1) trodAll_mk0)), rfl, bel.frame _, fun h => by cases h⟩

theorem proved : Rows.FnExactUnionBoxSaid :=
  OpenClaim.holds_of_wide 6 Try.f6 rfl rfl rfl rfl rfl rfl rfl ⟨rfl, rfl, rfl, rfl, rfl⟩ rfl rfl rfl rfl rfl (by kernel_rfl) Try.func6 (by kernel_rfl)
    (of_decide_eq_true (by kernel_rfl)) (by unfold Func.isWrapper; first | (rw [if_pos (by decide +kernel)]; kernel_rfl) | (rw [if_neg (by decide +kernel)]; exact ⟨rfl, rfl⟩))
    (fun os started H enc _ => lifted os started H enc)
#print axioms proved
end Go.Proofs.Ytjnebohcffeneaa.fnExactUnionBox
