/-
  Proved: the law FnExactProject returns true for every input and its arguments read behind the call as they read before. Conditions: none of our own; those of the given row alone.
-/
import Derived.Test.YtlaghpcdaolofaaRows
import Derived.WalkKit
import Derived.ProofKit
import Derived.OpenShut
import Derived.ShutString
import Derived.SliceStrings
import Derived.ChangeOld
import Derived.Below
import Derived.Test.YtlaghpcdaolofaaKV
import Derived.Test.YtlaghpcdaolofaaInts
import Derived.Test.YtlaghpcdaolofaaVbox
import Derived.Test.YtlaghpcdaolofaaVec
import Derived.Test.YtlaghpcdaolofaaHeld
import Derived.Test.YtlaghpcdaolofaaCam
import Derived.Test.YtlaghpcdaolofaaPut
import Derived.Test.YtlaghpcdaolofaaCPrj
import Derived.Deep.RegionHeld3
import Derived.Deep.DeepCutAuto
import Derived.Handy
import Derived.Test.YtlaghpcdaolofaaFlat
import Derived.Test.YtlaghpcdaolofaaMem
namespace Go.Proofs.Ytlaghpcdaolofaa.fnExactProject
open Go.ChangeShapes Go.WideShapes Go.ChangeAt Go.RowKit
open Go.ChangeMaps (open_string shut_string)
set_option linter.unusedVariables false

theorem own : ownKnob Try.prog.godebug = none := by kernel_rfl
theorem laidOut : laidOutB Try.prog = true := by kernel_rfl
theorem flatK23_ : FlatK Try.prog 23 [false, false, false, false, true, false, false] := flatKS (ks := [[false], [false], [false], [false], [true], [false], [false]]) Try.underlying23 (n := 7) (by kernel_rfl) (by exact ⟨[false], _, rfl, by kernel_rfl, by kernel_rfl, flatK_int Try.underlying3, ⟨[false], _, rfl, by kernel_rfl, by kernel_rfl, flatK_int Try.underlying3, ⟨[false], _, rfl, by kernel_rfl, by kernel_rfl, flatK_int Try.underlying3, ⟨[false], _, rfl, by kernel_rfl, by kernel_rfl, flatK_int Try.underlying3, ⟨[true], _, rfl, by kernel_rfl, by kernel_rfl, flatK_bool Try.underlying4, ⟨[false], _, rfl, by kernel_rfl, by kernel_rfl, flatK_int Try.underlying3, ⟨[false], _, rfl, by kernel_rfl, by kernel_rfl, flatK_int Try.underlying3, ⟨rfl, by kernel_rfl⟩⟩⟩⟩⟩⟩⟩⟩)
theorem flat3 : FlatI Try.prog 3 (Try.prog.cellsOf 3) := by rw [show Try.prog.cellsOf 3 = 1 by kernel_rfl]; exact flat1 Try.underlying3
theorem cells29 : Try.prog.cellsOf 29 = 3 := by kernel_rfl
theorem flat29_ : FlatI Try.prog 29 3 := flatS Try.underlying29 cells29 (by exact ⟨by kernel_rfl, flat3, ⟨by kernel_rfl, flat3, ⟨by kernel_rfl, flat3, by unfold FlatFs; kernel_rfl⟩⟩⟩)
set_option maxHeartbeats 4000000 in
theorem walk (w : World) (a0_0 : Int) (w0_0 : (Lit.int .i64 a0_0).wf = true) (a0_1 : Int) (w0_1 : (Lit.int .i64 a0_1).wf = true) (a0_2 : Int) (w0_2 : (Lit.int .i64 a0_2).wf = true) (a0_3 : Int) (w0_3 : (Lit.int .i64 a0_3).wf = true) (a0_4 : Bool) (a0_5 : Int) (w0_5 : (Lit.int .i64 a0_5).wf = true) (a0_6 : Int) (w0_6 : (Lit.int .i64 a0_6).wf = true) (a1_0 a1_1 a1_2 : Int) (w1_0 : (Lit.int .i64 a1_0).wf = true) (w1_1 : (Lit.int .i64 a1_1).wf = true) (w1_2 : (Lit.int .i64 a1_2).wf = true) (a2 : Int) (w2 : (Lit.int .i64 a2).wf = true) (a3 : Int) (w3 : (Lit.int .i64 a3).wf = true) :
    Calls Try.prog 4 #[.agg #[.int .i64 a0_0, .int .i64 a0_1, .int .i64 a0_2, .int .i64 a0_3, .bool a0_4, .int .i64 a0_5, .int .i64 a0_6], .agg #[.int .i64 a1_0, .int .i64 a1_1, .int .i64 a1_2], .int .i64 a2, .int .i64 a3] w fun e w' => e = .returned (.bool true) ∧ Below w.heap.size w w' := by
  have HT : Held w ((w.alloc (.cells #[.int .i64 a0_0, .int .i64 a0_1, .int .i64 a0_2, .int .i64 a0_3, .bool a0_4, .int .i64 a0_5, .int .i64 a0_6] 23)).alloc (.cells #[.int .i64 a1_0, .int .i64 a1_1, .int .i64 a1_2] 29)) [(w.heap.size + 1, [.int .i64 a1_0, .int .i64 a1_1, .int .i64 a1_2]), (w.heap.size, [.int .i64 a0_0, .int .i64 a0_1, .int .i64 a0_2, .int .i64 a0_3, .bool a0_4, .int .i64 a0_5, .int .i64 a0_6])] := by
    have h := ((Held.nil w).new #[.int .i64 a0_0, .int .i64 a0_1, .int .i64 a0_2, .int .i64 a0_3, .bool a0_4, .int .i64 a0_5, .int .i64 a0_6] 23).new #[.int .i64 a1_0, .int .i64 a1_1, .int .i64 a1_2] 29
    simpa only [World.size_alloc] using h
  obtain ⟨X, Y, Z, k, HSA, HIA⟩ : ∃ (X Y Z : Int) (k : Bool), (∀ w : World, Calls Try.prog 10 #[cam a0_0 a0_1 a0_2 a0_3 a0_4 a0_5 a0_6, vec a1_0 a1_1 a1_2, .int .i64 a2, .int .i64 a3] w (fun x w' => x = .returned (.tuple #[vec X Y Z, .bool k]) ∧ Below w.heap.size w w')) ∧ (∀ w : World, Calls Try.prog 12 #[cam a0_0 a0_1 a0_2 a0_3 a0_4 a0_5 a0_6, vec a1_0 a1_1 a1_2, .int .i64 a2, .int .i64 a3] w (fun x w' => x = .returned (.tuple #[vec X Y Z, .bool k]) ∧ Below w.heap.size w w')) :=
    ⟨_, _, _, _, fun w => sProject_any a0_0 a0_1 a0_2 a0_3 a0_4 a0_5 a0_6 a1_0 a1_1 a1_2 a2 a3 w, fun w => project_any a0_0 a0_1 a0_2 a0_3 a0_4 a0_5 a0_6 a1_0 a1_1 a1_2 a2 a3 w⟩
  go_enter Try.func4, Try.ntmps4
  go_upto_region 1 with fail
  have HC : ∀ W, Held w W [(w.heap.size + 1, [.int .i64 a1_0, .int .i64 a1_1, .int .i64 a1_2]), (w.heap.size, [.int .i64 a0_0, .int .i64 a0_1, .int .i64 a0_2, .int .i64 a0_3, .bool a0_4, .int .i64 a0_5, .int .i64 a0_6])] → (W.cell? ⟨w.heap.size, 0, none⟩ = some (.int .i64 a0_0) ∧ W.cell? ⟨w.heap.size, 1, none⟩ = some (.int .i64 a0_1) ∧ W.cell? ⟨w.heap.size, 2, none⟩ = some (.int .i64 a0_2) ∧ W.cell? ⟨w.heap.size, 3, none⟩ = some (.int .i64 a0_3) ∧ W.cell? ⟨w.heap.size, 4, none⟩ = some (.bool a0_4) ∧ W.cell? ⟨w.heap.size, 5, none⟩ = some (.int .i64 a0_5) ∧ W.cell? ⟨w.heap.size, 6, none⟩ = some (.int .i64 a0_6) ∧ W.cell? ⟨w.heap.size + 1, 0, none⟩ = some (.int .i64 a1_0) ∧ W.cell? ⟨w.heap.size + 1, 1, none⟩ = some (.int .i64 a1_1) ∧ W.cell? ⟨w.heap.size + 1, 2, none⟩ = some (.int .i64 a1_2)) := fun W h => ⟨(h.box 1).c 0, (h.box 1).c 1, (h.box 1).c 2, (h.box 1).c 3, (h.box 1).c 4, (h.box 1).c 5, (h.box 1).c 6, (h.box 0).c 0, (h.box 0).c 1, (h.box 0).c 2⟩
  have hz0 := (HT.box 0).lt
  have hz1 := (HT.box 1).lt
  go_cut [9, 10] (fun s x wx => ∃ gg : Nat, s = .pointer (some ⟨gg, 0, none⟩) ∧ x = .bool k ∧ Mbox wx gg [.int .i64 X, .int .i64 Y, .int .i64 Z] ∧ Held w wx [(w.heap.size + 1, [.int .i64 a1_0, .int .i64 a1_1, .int .i64 a1_2]), (w.heap.size, [.int .i64 a0_0, .int .i64 a0_1, .int .i64 a0_2, .int .i64 a0_3, .bool a0_4, .int .i64 a0_5, .int .i64 a0_6])])
  case first =>
    go_region_held3 (fun w' => w'.cell? ⟨w.heap.size, 0, none⟩ = some (.int .i64 a0_0) ∧ w'.cell? ⟨w.heap.size, 1, none⟩ = some (.int .i64 a0_1) ∧ w'.cell? ⟨w.heap.size, 2, none⟩ = some (.int .i64 a0_2) ∧ w'.cell? ⟨w.heap.size, 3, none⟩ = some (.int .i64 a0_3) ∧ w'.cell? ⟨w.heap.size, 4, none⟩ = some (.bool a0_4) ∧ w'.cell? ⟨w.heap.size, 5, none⟩ = some (.int .i64 a0_5) ∧ w'.cell? ⟨w.heap.size, 6, none⟩ = some (.int .i64 a0_6) ∧ w'.cell? ⟨w.heap.size + 1, 0, none⟩ = some (.int .i64 a1_0) ∧ w'.cell? ⟨w.heap.size + 1, 1, none⟩ = some (.int .i64 a1_1) ∧ w'.cell? ⟨w.heap.size + 1, 2, none⟩ = some (.int .i64 a1_2))
      (first | (with_reducible exact HC _ HT) | (with_reducible exact HC _ HT.drew) | (with_reducible exact HC _ (HT.alloc _)) | (with_reducible exact HC _ (HT.alloc _).drew) | (with_reducible exact HC _ (HT.far3 (by omega) (by simp <;> omega) _ _ _)) | (with_reducible exact HC _ (HT.far3 (by omega) (by simp <;> omega) _ _ _).drew))
      (first | (go_at_call 8; refine (toCamera_any _ _ _ _ _ _ _ _).mono ?_; rintro e w1 ⟨rfl, hb1⟩; (first | (have HT := HT.later hb1) | (have HT := HT.drew.later hb1) | (have HT := (HT.alloc _).later hb1) | (have HT := (HT.alloc _).drew.later hb1)); have hz0 := (HT.box 0).lt; have hz1 := (HT.box 1).lt; (first | (have HG := (Mbox.newV _ (.int .i64 0) (.int .i64 0) (.int .i64 0) 30).later hb1) | (have HG := (Mbox.newV _ (.int .i64 0) (.int .i64 0) (.int .i64 0) 30).drew.later hb1) | (have HG := HG.later hb1) | skip); (try simp only [World.size_alloc] at HG); (try (have hg0 := HG.c 0; have gg0 := HG.f 0; have hg1 := HG.c 1; have gg1 := HG.f 1; have hg2 := HG.c 2; have gg2 := HG.f 2))) | (go_at_call 11; refine (toVec_any _ _ _ _).mono ?_; rintro e w1 ⟨rfl, hb1⟩; (first | (have HT := HT.later hb1) | (have HT := HT.drew.later hb1) | (have HT := (HT.alloc _).later hb1) | (have HT := (HT.alloc _).drew.later hb1)); have hz0 := (HT.box 0).lt; have hz1 := (HT.box 1).lt; (first | (have HG := (Mbox.newV _ (.int .i64 0) (.int .i64 0) (.int .i64 0) 30).later hb1) | (have HG := (Mbox.newV _ (.int .i64 0) (.int .i64 0) (.int .i64 0) 30).drew.later hb1) | (have HG := HG.later hb1) | skip); (try simp only [World.size_alloc] at HG); (try (have hg0 := HG.c 0; have gg0 := HG.f 0; have hg1 := HG.c 1; have gg1 := HG.f 1; have hg2 := HG.c 2; have gg2 := HG.f 2))) | (go_at_call 10; refine (HSA _).mono ?_; rintro e w1 ⟨rfl, hb1⟩; (first | (have HT := HT.later hb1) | (have HT := HT.drew.later hb1) | (have HT := (HT.alloc _).later hb1) | (have HT := (HT.alloc _).drew.later hb1)); have hz0 := (HT.box 0).lt; have hz1 := (HT.box 1).lt; (first | (have HG := (Mbox.newV _ (.int .i64 0) (.int .i64 0) (.int .i64 0) 30).later hb1) | (have HG := (Mbox.newV _ (.int .i64 0) (.int .i64 0) (.int .i64 0) 30).drew.later hb1) | (have HG := HG.later hb1) | skip); (try simp only [World.size_alloc] at HG); (try (have hg0 := HG.c 0; have gg0 := HG.f 0; have hg1 := HG.c 1; have gg1 := HG.f 1; have hg2 := HG.c 2; have gg2 := HG.f 2))))
    all_goals (go_wp2_with fail; go_meet)
    all_goals (first | with_reducible exact ⟨_, rfl, rfl, Mbox.newV _ _ _ _ _, HT.alloc _⟩ | with_reducible exact ⟨_, rfl, rfl, HG.putV _ _ _, HT.far3 (by omega) (by simp <;> omega) _ _ _⟩)
  case rest =>
    clear HC HT hz0 hz1
    obtain ⟨g, rfl, rfl, HV, HT⟩ := hcut
    have HT := HT.cons HV
    clear HV HSA
    go_upto_region 2 with fail
    have HC : ∀ W, Held w W [(g, [.int .i64 X, .int .i64 Y, .int .i64 Z]), (w.heap.size + 1, [.int .i64 a1_0, .int .i64 a1_1, .int .i64 a1_2]), (w.heap.size, [.int .i64 a0_0, .int .i64 a0_1, .int .i64 a0_2, .int .i64 a0_3, .bool a0_4, .int .i64 a0_5, .int .i64 a0_6])] → (W.cell? ⟨w.heap.size, 0, none⟩ = some (.int .i64 a0_0) ∧ W.cell? ⟨w.heap.size, 1, none⟩ = some (.int .i64 a0_1) ∧ W.cell? ⟨w.heap.size, 2, none⟩ = some (.int .i64 a0_2) ∧ W.cell? ⟨w.heap.size, 3, none⟩ = some (.int .i64 a0_3) ∧ W.cell? ⟨w.heap.size, 4, none⟩ = some (.bool a0_4) ∧ W.cell? ⟨w.heap.size, 5, none⟩ = some (.int .i64 a0_5) ∧ W.cell? ⟨w.heap.size, 6, none⟩ = some (.int .i64 a0_6) ∧ W.cell? ⟨w.heap.size + 1, 0, none⟩ = some (.int .i64 a1_0) ∧ W.cell? ⟨w.heap.size + 1, 1, none⟩ = some (.int .i64 a1_1) ∧ W.cell? ⟨w.heap.size + 1, 2, none⟩ = some (.int .i64 a1_2)) := fun W h => ⟨(h.box 2).c 0, (h.box 2).c 1, (h.box 2).c 2, (h.box 2).c 3, (h.box 2).c 4, (h.box 2).c 5, (h.box 2).c 6, (h.box 1).c 0, (h.box 1).c 1, (h.box 1).c 2⟩
    have hz0 := (HT.box 0).lt
    have hz1 := (HT.box 1).lt
    have hz2 := (HT.box 2).lt
    go_cut [11, 12] (fun s x wx => ∃ gg : Nat, s = .pointer (some ⟨gg, 0, none⟩) ∧ x = .bool k ∧ Mbox wx gg [.int .i64 X, .int .i64 Y, .int .i64 Z] ∧ Held w wx [(g, [.int .i64 X, .int .i64 Y, .int .i64 Z]), (w.heap.size + 1, [.int .i64 a1_0, .int .i64 a1_1, .int .i64 a1_2]), (w.heap.size, [.int .i64 a0_0, .int .i64 a0_1, .int .i64 a0_2, .int .i64 a0_3, .bool a0_4, .int .i64 a0_5, .int .i64 a0_6])])
    case first =>
      go_region_held3 (fun w' => w'.cell? ⟨w.heap.size, 0, none⟩ = some (.int .i64 a0_0) ∧ w'.cell? ⟨w.heap.size, 1, none⟩ = some (.int .i64 a0_1) ∧ w'.cell? ⟨w.heap.size, 2, none⟩ = some (.int .i64 a0_2) ∧ w'.cell? ⟨w.heap.size, 3, none⟩ = some (.int .i64 a0_3) ∧ w'.cell? ⟨w.heap.size, 4, none⟩ = some (.bool a0_4) ∧ w'.cell? ⟨w.heap.size, 5, none⟩ = some (.int .i64 a0_5) ∧ w'.cell? ⟨w.heap.size, 6, none⟩ = some (.int .i64 a0_6) ∧ w'.cell? ⟨w.heap.size + 1, 0, none⟩ = some (.int .i64 a1_0) ∧ w'.cell? ⟨w.heap.size + 1, 1, none⟩ = some (.int .i64 a1_1) ∧ w'.cell? ⟨w.heap.size + 1, 2, none⟩ = some (.int .i64 a1_2))
        (first | (with_reducible exact HC _ HT) | (with_reducible exact HC _ HT.drew) | (with_reducible exact HC _ (HT.alloc _)) | (with_reducible exact HC _ (HT.alloc _).drew) | (with_reducible exact HC _ (HT.far3 (by omega) (by simp <;> omega) _ _ _)) | (with_reducible exact HC _ (HT.far3 (by omega) (by simp <;> omega) _ _ _).drew))
        (first | (go_at_call 8; refine (toCamera_any _ _ _ _ _ _ _ _).mono ?_; rintro e w1 ⟨rfl, hb1⟩; (first | (have HT := HT.later hb1) | (have HT := HT.drew.later hb1) | (have HT := (HT.alloc _).later hb1) | (have HT := (HT.alloc _).drew.later hb1)); have hz0 := (HT.box 0).lt; have hz1 := (HT.box 1).lt; have hz2 := (HT.box 2).lt; (first | (have HG := (Mbox.newV _ (.int .i64 0) (.int .i64 0) (.int .i64 0) 30).later hb1) | (have HG := (Mbox.newV _ (.int .i64 0) (.int .i64 0) (.int .i64 0) 30).drew.later hb1) | (have HG := HG.later hb1) | skip); (try simp only [World.size_alloc] at HG); (try (have hg0 := HG.c 0; have gg0 := HG.f 0; have hg1 := HG.c 1; have gg1 := HG.f 1; have hg2 := HG.c 2; have gg2 := HG.f 2))) | (go_at_call 11; refine (toVec_any _ _ _ _).mono ?_; rintro e w1 ⟨rfl, hb1⟩; (first | (have HT := HT.later hb1) | (have HT := HT.drew.later hb1) | (have HT := (HT.alloc _).later hb1) | (have HT := (HT.alloc _).drew.later hb1)); have hz0 := (HT.box 0).lt; have hz1 := (HT.box 1).lt; have hz2 := (HT.box 2).lt; (first | (have HG := (Mbox.newV _ (.int .i64 0) (.int .i64 0) (.int .i64 0) 30).later hb1) | (have HG := (Mbox.newV _ (.int .i64 0) (.int .i64 0) (.int .i64 0) 30).drew.later hb1) | (have HG := HG.later hb1) | skip); (try simp only [World.size_alloc] at HG); (try (have hg0 := HG.c 0; have gg0 := HG.f 0; have hg1 := HG.c 1; have gg1 := HG.f 1; have hg2 := HG.c 2; have gg2 := HG.f 2))) | (go_at_call 12; refine (HIA _).mono ?_; rintro e w1 ⟨rfl, hb1⟩; (first | (have HT := HT.later hb1) | (have HT := HT.drew.later hb1) | (have HT := (HT.alloc _).later hb1) | (have HT := (HT.alloc _).drew.later hb1)); have hz0 := (HT.box 0).lt; have hz1 := (HT.box 1).lt; have hz2 := (HT.box 2).lt; (first | (have HG := (Mbox.newV _ (.int .i64 0) (.int .i64 0) (.int .i64 0) 30).later hb1) | (have HG := (Mbox.newV _ (.int .i64 0) (.int .i64 0) (.int .i64 0) 30).drew.later hb1) | (have HG := HG.later hb1) | skip); (try simp only [World.size_alloc] at HG); (try (have hg0 := HG.c 0; have gg0 := HG.f 0; have hg1 := HG.c 1; have gg1 := HG.f 1; have hg2 := HG.c 2; have gg2 := HG.f 2))))
      all_goals (go_wp2_with fail; go_meet)
      all_goals (first | with_reducible exact ⟨_, rfl, rfl, Mbox.newV _ _ _ _ _, HT.alloc _⟩ | with_reducible exact ⟨_, rfl, rfl, HG.putV _ _ _, HT.far3 (by omega) (by simp <;> omega) _ _ _⟩)
    case rest =>
      clear HC HT hz0 hz1 hz2
      obtain ⟨h, rfl, rfl, HV, HT⟩ := hcut
      have HT := HT.cons HV
      clear HV HIA
      have c0 := (HT.box 0).c 0
      have c1 := (HT.box 0).c 1
      have c2 := (HT.box 0).c 2
      have u0 := (HT.box 1).c 0
      have u1 := (HT.box 1).c 1
      have u2 := (HT.box 1).c 2
      go_wp2_with fail
      refine (eqVec_same _ _ _ _).mono ?_
      rintro e w4 ⟨rfl, hb4⟩
      have HT := HT.later hb4
      clear hb4 c0 c1 c2 u0 u1 u2
      cases k
      all_goals
        go_wp2_with fail
        go_ret
        exact ⟨rfl, HT.below⟩

set_option maxRecDepth 100000 in
theorem lifted (os : Os) (started : os.Started) (H : Type) (enc : TypeId × Value → H) :
    ReturnsInHanded {} Try.checked os 4 .any (Rows.fnExactProjectSpec.pre6 enc Try.prog Try.f4 Rows.fnExactProjectRow.domain false) (Rows.fnExactProjectSpec.post enc Try.prog Try.f4 false true false false) := by
  refine returnsInHanded_of_change (C := Try.checked) own started (by kernel_rfl) Try.func4
    (ChangeSpec.witness6 (enc := enc) (C := Try.checked) false ⟨#[], #[.agg #[.int .i64 0, .int .i64 0, .int .i64 0, .int .i64 0, .bool false, .int .i64 0, .int .i64 0], .agg #[.int .i64 0, .int .i64 0, .int .i64 0], .int .i64 0, .int .i64 0], []⟩ 8 (by kernel_rfl) (by kernel_rfl) (by kernel_rfl) (by kernel_rfl)) ?_
  intro W base args ds gs before hval0 hW hcnd _
  have hval : ∀ (j : Nat) t v, Try.f4.params[j]? = some t → args[j]? = some v → Value.okWide Try.prog W .any base t v := hval0
  have hW' := hW
  obtain ⟨p, q, hA0, hV, rfl, hfz, hnd⟩ := hW
  have hA : DataW.TrodAll enc Try.prog W 0 (fun _ => true) true Try.f4.params.toList args.toList ds p := hA0
  rw [Try.params4] at hA hval
  obtain ⟨v0, vs0, d0, ds0, p0, q0, hargs, rfl, rfl, h0, r1000⟩ := trodAll_cons hA
  obtain ⟨v1, vs1, d1, ds1, p1, q1, rfl, rfl, rfl, h1, r1001⟩ := trodAll_cons r1000
  obtain ⟨v2, vs2, d2, ds2, p2, q2, rfl, rfl, rfl, h2, r1002⟩ := trodAll_cons r1001
  obtain ⟨v3, vs3, d3, ds3, p3, q3, rfl, rfl, rfl, h3, r1003⟩ := trodAll_cons r1002
  obtain ⟨rfl, rfl, rfl⟩ := trodAll_nil r1003
  obtain rfl : args = #[v0, v1, v2, v3] := by cases args; simp_all
  obtain ⟨rfl, rfl⟩ := trodVars_none hV
  have k0 := h0
  have lt0 : ∀ x ∈ p0, x.block < W.heap.size := by obtain ⟨m, hm⟩ := k0; exact DataW.trod_lt m _ _ _ hm
  have hv0 := hval 0 23 v0 rfl rfl
  obtain ⟨vs0, rfl, kk0⟩ := open_flatK (P := Try.prog) (t := 23) Try.underlying23 flatK23_ hv0 h0
  obtain ⟨a0_0, r0, rfl, w0_0, kk0⟩ := kk0
  obtain ⟨a0_1, r0, rfl, w0_1, kk0⟩ := kk0
  obtain ⟨a0_2, r0, rfl, w0_2, kk0⟩ := kk0
  obtain ⟨a0_3, r0, rfl, w0_3, kk0⟩ := kk0
  obtain ⟨a0_4, r0, rfl, kk0⟩ := kk0
  obtain ⟨a0_5, r0, rfl, w0_5, kk0⟩ := kk0
  obtain ⟨a0_6, r0, rfl, w0_6, kk0⟩ := kk0
  obtain rfl := kk0
  have k1 := h1
  have lt1 : ∀ x ∈ p1, x.block < W.heap.size := by obtain ⟨m, hm⟩ := k1; exact DataW.trod_lt m _ _ _ hm
  have hv1 := hval 1 29 v1 rfl rfl
  obtain ⟨zs1, hzs1, rfl, wzs1⟩ := open_flat (P := Try.prog) (t := 29) (n := 3) Try.underlying29 flat29_ hv1 h1
  obtain ⟨a1_0, a1_1, a1_2, rfl⟩ := list3 hzs1
  obtain ⟨a2, rfl, rfl, rfl, w2⟩ := open_int Try.underlying3 (hval 2 3 v2 rfl rfl) h2
  obtain ⟨a3, rfl, rfl, rfl, w3⟩ := open_int Try.underlying3 (hval 3 3 v3 rfl rfl) h3
  clear hA0
  refine (walk W a0_0 w0_0 a0_1 w0_1 a0_2 w0_2 a0_3 w0_3 a0_4 a0_5 w0_5 a0_6 w0_6 a1_0 a1_1 a1_2 (wzs1 _ (by simp)) (wzs1 _ (by simp)) (wzs1 _ (by simp)) a2 w2 a3 w3).mono fun e W' ⟨he, bel⟩ => ?_
  subst he
  exact ⟨_, rfl, _, _, _, [], _, [], hW', trodAll_mk1 (shut_bool Try.underlying4 _), (trodAll_cons_mk (Below.trod laidOut (by kernel_rfl) (of_decide_eq_true (by kernel_rfl)) k0 bel lt0) (trodAll_cons_mk (Below.trod laidOut (by kernel_rfl) (of_decide_eq_true (by kernel_rfl)) k1 bel lt1) (trodAll_cons_mk (shut_int Try.underlying3 w2) (trodAll_cons_mk (shut_int Try.underlying3 w3) trodAll_mk0)))), rfl, bel.frame _, fun h => by cases h⟩

theorem proved : Rows.FnExactProjectSaid :=
  OpenClaim.holds_of_wide 4 Try.f4 rfl rfl rfl rfl rfl rfl rfl ⟨rfl, rfl, rfl, rfl, rfl⟩ rfl rfl rfl rfl rfl (by kernel_rfl) Try.func4 (by kernel_rfl)
    (of_decide_eq_true (by kernel_rfl)) (by unfold Func.isWrapper; first | (rw [if_pos (by decide +kernel)]; kernel_rfl) | (rw [if_neg (by decide +kernel)]; exact ⟨rfl, rfl⟩))
    (fun os started H enc _ => lifted os started H enc)
#print axioms proved
end Go.Proofs.Ytlaghpcdaolofaa.fnExactProject
