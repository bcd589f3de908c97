/-
  Proved: the law FnExactTransformPatch returns true for every input and its arguments read behind the call as they read before. Conditions: none of our own; those of the given row alone.
-/
import Derived.Test.YtjflkapdnnecjaaRows
import Derived.WalkKit
import Derived.ProofKit
import Derived.OpenShut
import Derived.ShutString
import Derived.SliceStrings
import Derived.ChangeOld
import Derived.Below
import Derived.Test.YtjflkapdnnecjaaFlat
import Derived.Test.YtjflkapdnnecjaaVbox
import Derived.Test.YtjflkapdnnecjaaVec
import Derived.Test.YtjflkapdnnecjaaHeld
import Derived.Test.YtjflkapdnnecjaaMem
import Derived.Test.YtjflkapdnnecjaaRowC
import Derived.Test.YtjflkapdnnecjaaPat
import Derived.Test.YtjflkapdnnecjaaPTo
import Derived.Test.YtjflkapdnnecjaaPVal
import Derived.Test.YtjflkapdnnecjaaArr
import Derived.Test.YtjflkapdnnecjaaTr
import Derived.Test.YtjflkapdnnecjaaTTo
import Derived.Test.YtjflkapdnnecjaaTMat
import Derived.Test.YtjflkapdnnecjaaVDot
import Derived.Test.YtjflkapdnnecjaaVAdd
import Derived.Test.YtjflkapdnnecjaaTAw
import Derived.Test.YtjflkapdnnecjaaTApp
import Derived.Test.YtjflkapdnnecjaaTsApp
import Derived.Test.YtjflkapdnnecjaaTApA
import Derived.Test.YtjflkapdnnecjaaVecS
import Derived.Test.YtjflkapdnnecjaaT12
import Derived.Test.YtjflkapdnnecjaaTS
import Derived.Test.YtjflkapdnnecjaaTAll
import Derived.Test.YtjflkapdnnecjaaPTra
import Derived.Deep.RegionHeld3
import Derived.Deep.DeepCutAuto
import Derived.Handy
namespace Go.Proofs.Ytjflkapdnnecjaa.fnExactTransformPatch
open Go.ChangeShapes Go.WideShapes Go.ChangeAt Go.RowKit
open Go.ChangeMaps (open_string shut_string)
set_option linter.unusedVariables false

theorem own : ownKnob Try.prog.godebug = none := by kernel_rfl
theorem laidOut : laidOutB Try.prog = true := by kernel_rfl
theorem flatE3 : FlatI Try.prog 3 1 := flat1 Try.underlying3
theorem cellsE3 : Try.prog.cellsOf 3 = 1 := by kernel_rfl
theorem cellsA88 : Try.prog.cellsOf 88 = 9 * 1 := by kernel_rfl
theorem flat3 : FlatI Try.prog 3 (Try.prog.cellsOf 3) := by rw [show Try.prog.cellsOf 3 = 1 by kernel_rfl]; exact flat1 Try.underlying3
theorem cells38 : Try.prog.cellsOf 38 = 3 := by kernel_rfl
theorem flat88 : FlatI Try.prog 88 (Try.prog.cellsOf 88) := by rw [show Try.prog.cellsOf 88 = 9 by kernel_rfl]; exact flatA Try.underlying88 cellsA88 cellsE3 flatE3
theorem flat38 : FlatI Try.prog 38 (Try.prog.cellsOf 38) := by rw [show Try.prog.cellsOf 38 = 3 by kernel_rfl]; exact flatS Try.underlying38 cells38 (by exact ⟨by kernel_rfl, flat3, ⟨by kernel_rfl, flat3, ⟨by kernel_rfl, flat3, by unfold FlatFs; kernel_rfl⟩⟩⟩)
theorem cells93 : Try.prog.cellsOf 93 = 12 := by kernel_rfl
theorem flat93_ : FlatI Try.prog 93 12 := flatS Try.underlying93 cells93 (by exact ⟨by kernel_rfl, flat88, ⟨by kernel_rfl, flat38, by unfold FlatFs; kernel_rfl⟩⟩)
theorem flatE38 : FlatI Try.prog 38 3 := flatS Try.underlying38 cells38 (by exact ⟨by kernel_rfl, flat3, ⟨by kernel_rfl, flat3, ⟨by kernel_rfl, flat3, by unfold FlatFs; kernel_rfl⟩⟩⟩)
theorem cellsE38 : Try.prog.cellsOf 38 = 3 := by kernel_rfl
theorem cellsA39 : Try.prog.cellsOf 39 = 4 * 3 := by kernel_rfl
theorem flat39 : FlatI Try.prog 39 (Try.prog.cellsOf 39) := by rw [show Try.prog.cellsOf 39 = 12 by kernel_rfl]; exact flatA Try.underlying39 cellsA39 cellsE38 flatE38
theorem cells41 : Try.prog.cellsOf 41 = 12 := by kernel_rfl
theorem flat41_ : FlatI Try.prog 41 12 := flatS Try.underlying41 cells41 (by exact ⟨by kernel_rfl, flat39, by unfold FlatFs; kernel_rfl⟩)
theorem rdrew {n : Nat} {g : V12 → List Value} {W : World} {A : Option Addr} {xs : List V12} (h : RowC n g W W.heap.size A xs) : RowC n g W.drew W.drew.heap.size A xs := h
theorem ralloc {n : Nat} {g : V12 → List Value} {W : World} {A : Option Addr} {xs : List V12} (h : RowC n g W W.heap.size A xs) (o : Obj) : RowC n g (W.alloc o) (W.alloc o).heap.size A xs := (h.alloc (Nat.le_refl _) o).more (by simp)
set_option maxHeartbeats 8000000 in
theorem walk (w : World) (a0 : Option Addr) (c0 : Nat) (x0 : List V12) (r0 : RowC 12 tg w w.heap.size a0 x0) (m0 : x0.length ≤ maxLen) (a1_0 a1_1 a1_2 a1_3 a1_4 a1_5 a1_6 a1_7 a1_8 a1_9 a1_10 a1_11 : Int) (w1_0 : (Lit.int .i64 a1_0).wf = true) (w1_1 : (Lit.int .i64 a1_1).wf = true) (w1_2 : (Lit.int .i64 a1_2).wf = true) (w1_3 : (Lit.int .i64 a1_3).wf = true) (w1_4 : (Lit.int .i64 a1_4).wf = true) (w1_5 : (Lit.int .i64 a1_5).wf = true) (w1_6 : (Lit.int .i64 a1_6).wf = true) (w1_7 : (Lit.int .i64 a1_7).wf = true) (w1_8 : (Lit.int .i64 a1_8).wf = true) (w1_9 : (Lit.int .i64 a1_9).wf = true) (w1_10 : (Lit.int .i64 a1_10).wf = true) (w1_11 : (Lit.int .i64 a1_11).wf = true) :
    Calls Try.prog 10 #[.slice a0 x0.length c0, .agg #[.int .i64 a1_0, .int .i64 a1_1, .int .i64 a1_2, .int .i64 a1_3, .int .i64 a1_4, .int .i64 a1_5, .int .i64 a1_6, .int .i64 a1_7, .int .i64 a1_8, .int .i64 a1_9, .int .i64 a1_10, .int .i64 a1_11]] w fun e w' => e = .returned (.bool true) ∧ Below w.heap.size w w' := by
  have R0 := r0
  clear r0
  obtain ⟨n, hn⟩ : ∃ n, n = x0.length := ⟨_, rfl⟩
  have HN := Lib.hid hn
  obtain ⟨d0, e0⟩ : ∃ d, d = (x0.foldl apT (a1_0, a1_1, a1_2)).1 := ⟨_, rfl⟩
  obtain ⟨d1, e1⟩ : ∃ d, d = (x0.foldl apT (a1_0, a1_1, a1_2)).2.1 := ⟨_, rfl⟩
  obtain ⟨d2, e2⟩ : ∃ d, d = (x0.foldl apT (a1_0, a1_1, a1_2)).2.2 := ⟨_, rfl⟩
  obtain ⟨d3, e3⟩ : ∃ d, d = (x0.foldl apT (a1_3, a1_4, a1_5)).1 := ⟨_, rfl⟩
  obtain ⟨d4, e4⟩ : ∃ d, d = (x0.foldl apT (a1_3, a1_4, a1_5)).2.1 := ⟨_, rfl⟩
  obtain ⟨d5, e5⟩ : ∃ d, d = (x0.foldl apT (a1_3, a1_4, a1_5)).2.2 := ⟨_, rfl⟩
  obtain ⟨d6, e6⟩ : ∃ d, d = (x0.foldl apT (a1_6, a1_7, a1_8)).1 := ⟨_, rfl⟩
  obtain ⟨d7, e7⟩ : ∃ d, d = (x0.foldl apT (a1_6, a1_7, a1_8)).2.1 := ⟨_, rfl⟩
  obtain ⟨d8, e8⟩ : ∃ d, d = (x0.foldl apT (a1_6, a1_7, a1_8)).2.2 := ⟨_, rfl⟩
  obtain ⟨d9, e9⟩ : ∃ d, d = (x0.foldl apT (a1_9, a1_10, a1_11)).1 := ⟨_, rfl⟩
  obtain ⟨d10, e10⟩ : ∃ d, d = (x0.foldl apT (a1_9, a1_10, a1_11)).2.1 := ⟨_, rfl⟩
  obtain ⟨d11, e11⟩ : ∃ d, d = (x0.foldl apT (a1_9, a1_10, a1_11)).2.2 := ⟨_, rfl⟩
  have HTS : ∀ (A : Option Addr) (c : Nat) (w : World), RowC 12 tg w w.heap.size A x0 → n ≤ 1048576 → Calls Try.prog 34 #[.slice A n c] w fun e w' => e = .returned (.slice (some ⟨w.heap.size, 0, none⟩) n n) ∧ Below w.heap.size w w' ∧ RowC 12 tg w' w'.heap.size (some ⟨w.heap.size, 0, none⟩) x0 := fun A c w h hl => by
    have e := HN.out; subst e; exact toTransformS_any A c x0 w h (by omega)
  have HSA : ∀ (A : Option Addr) (c : Nat) (w : World), RowC 12 tg w w.heap.size A x0 → n ≤ 1048576 → Calls Try.prog 33 #[.slice A n c, tr a1_0 a1_1 a1_2 a1_3 a1_4 a1_5 a1_6 a1_7 a1_8 a1_9 a1_10 a1_11] w (TrOut d0 d1 d2 d3 d4 d5 d6 d7 d8 d9 d10 d11 w) := fun A c w h hl => by
    have e := HN.out; subst e; rw [e0, e1, e2, e3, e4, e5, e6, e7, e8, e9, e10, e11]; exact sTransformPatch_any A c x0 a1_0 a1_1 a1_2 a1_3 a1_4 a1_5 a1_6 a1_7 a1_8 a1_9 a1_10 a1_11 w h (by omega)
  have HIA : ∀ (A : Option Addr) (c : Nat) (w : World), RowC 12 tg w w.heap.size A x0 → n ≤ 1048576 → Calls Try.prog 35 #[.slice A n c, tr a1_0 a1_1 a1_2 a1_3 a1_4 a1_5 a1_6 a1_7 a1_8 a1_9 a1_10 a1_11] w (TrOut d0 d1 d2 d3 d4 d5 d6 d7 d8 d9 d10 d11 w) := fun A c w h hl => by
    have e := HN.out; subst e; rw [e0, e1, e2, e3, e4, e5, e6, e7, e8, e9, e10, e11]; exact transformPatch_any A c x0 a1_0 a1_1 a1_2 a1_3 a1_4 a1_5 a1_6 a1_7 a1_8 a1_9 a1_10 a1_11 w h (by omega)
  have HEQ : ∀ (A A' : Option Addr) (c c' : Nat) (w : World), RowC 12 tg w w.heap.size A x0 → RowC 12 tg w w.heap.size A' x0 → n ≤ 1048576 → Calls Try.prog 37 #[.slice A n c, .slice A' n c'] w fun e w' => e = .returned (.bool true) ∧ Below w.heap.size w w' := fun A A' c c' w h h' hl => by
    have e := HN.out; subst e; exact eqTransformS_same A A' c c' x0 w h h' (by omega)
  rw [← hn] at m0 ⊢
  clear hn HN e0 e1 e2 e3 e4 e5 e6 e7 e8 e9 e10 e11
  by_cases hl : n ≤ 1048576
  · have hl' : (n : Int) ≤ 1048576 := by omega
    have HT : Held w (w.alloc (.cells #[.int .i64 a1_0, .int .i64 a1_1, .int .i64 a1_2, .int .i64 a1_3, .int .i64 a1_4, .int .i64 a1_5, .int .i64 a1_6, .int .i64 a1_7, .int .i64 a1_8, .int .i64 a1_9, .int .i64 a1_10, .int .i64 a1_11] 41)) [(w.heap.size, [.int .i64 a1_0, .int .i64 a1_1, .int .i64 a1_2, .int .i64 a1_3, .int .i64 a1_4, .int .i64 a1_5, .int .i64 a1_6, .int .i64 a1_7, .int .i64 a1_8, .int .i64 a1_9, .int .i64 a1_10, .int .i64 a1_11])] := by
      have h := (Held.nil w).new #[.int .i64 a1_0, .int .i64 a1_1, .int .i64 a1_2, .int .i64 a1_3, .int .i64 a1_4, .int .i64 a1_5, .int .i64 a1_6, .int .i64 a1_7, .int .i64 a1_8, .int .i64 a1_9, .int .i64 a1_10, .int .i64 a1_11] 41
      simpa only [World.size_alloc] using h
    have RH : ∀ {bs : List (Nat × List Value)} (W : World), Held w W bs → RowC 12 tg W W.heap.size a0 x0 := fun W h => (R0.below h.below).more h.size
    have HC : ∀ W, Held w W [(w.heap.size, [.int .i64 a1_0, .int .i64 a1_1, .int .i64 a1_2, .int .i64 a1_3, .int .i64 a1_4, .int .i64 a1_5, .int .i64 a1_6, .int .i64 a1_7, .int .i64 a1_8, .int .i64 a1_9, .int .i64 a1_10, .int .i64 a1_11])] → (W.cell? ⟨w.heap.size, 0, none⟩ = some (.int .i64 a1_0) ∧ W.cell? ⟨w.heap.size, 1, none⟩ = some (.int .i64 a1_1) ∧ W.cell? ⟨w.heap.size, 2, none⟩ = some (.int .i64 a1_2) ∧ W.cell? ⟨w.heap.size, 3, none⟩ = some (.int .i64 a1_3) ∧ W.cell? ⟨w.heap.size, 4, none⟩ = some (.int .i64 a1_4) ∧ W.cell? ⟨w.heap.size, 5, none⟩ = some (.int .i64 a1_5) ∧ W.cell? ⟨w.heap.size, 6, none⟩ = some (.int .i64 a1_6) ∧ W.cell? ⟨w.heap.size, 7, none⟩ = some (.int .i64 a1_7) ∧ W.cell? ⟨w.heap.size, 8, none⟩ = some (.int .i64 a1_8) ∧ W.cell? ⟨w.heap.size, 9, none⟩ = some (.int .i64 a1_9) ∧ W.cell? ⟨w.heap.size, 10, none⟩ = some (.int .i64 a1_10) ∧ W.cell? ⟨w.heap.size, 11, none⟩ = some (.int .i64 a1_11) ∧ W.rangeAt (w.heap.size) 0 [.int .i64 a1_0, .int .i64 a1_1, .int .i64 a1_2, .int .i64 a1_3, .int .i64 a1_4, .int .i64 a1_5, .int .i64 a1_6, .int .i64 a1_7, .int .i64 a1_8, .int .i64 a1_9, .int .i64 a1_10, .int .i64 a1_11]) := fun W h => ⟨(h.box 0).c 0, (h.box 0).c 1, (h.box 0).c 2, (h.box 0).c 3, (h.box 0).c 4, (h.box 0).c 5, (h.box 0).c 6, (h.box 0).c 7, (h.box 0).c 8, (h.box 0).c 9, (h.box 0).c 10, (h.box 0).c 11, (h.box 0).range12⟩
    have hz0 := (HT.box 0).lt
    go_enter Try.func10, Try.ntmps10
    go_wp2_with fail
    refine (szTransformS_yes _ _ _ _ _ hl' (by omega)).mono ?_
    rintro e w' ⟨rfl, rfl⟩
    have hd : ¬ ((1048576 : Int) - (n : Int) < 0) := by omega
    go_upto_region 5 with fail
    clear hd
    go_cut [6] (fun s wx => ∃ g : Nat, s = .pointer (some ⟨g, 0, none⟩) ∧ Mbox wx g [.int .i64 d0, .int .i64 d1, .int .i64 d2, .int .i64 d3, .int .i64 d4, .int .i64 d5, .int .i64 d6, .int .i64 d7, .int .i64 d8, .int .i64 d9, .int .i64 d10, .int .i64 d11] ∧ Held w wx [(w.heap.size, [.int .i64 a1_0, .int .i64 a1_1, .int .i64 a1_2, .int .i64 a1_3, .int .i64 a1_4, .int .i64 a1_5, .int .i64 a1_6, .int .i64 a1_7, .int .i64 a1_8, .int .i64 a1_9, .int .i64 a1_10, .int .i64 a1_11])])
    case first =>
      go_region_held3 (fun w' => w'.cell? ⟨w.heap.size, 0, none⟩ = some (.int .i64 a1_0) ∧ w'.cell? ⟨w.heap.size, 1, none⟩ = some (.int .i64 a1_1) ∧ w'.cell? ⟨w.heap.size, 2, none⟩ = some (.int .i64 a1_2) ∧ w'.cell? ⟨w.heap.size, 3, none⟩ = some (.int .i64 a1_3) ∧ w'.cell? ⟨w.heap.size, 4, none⟩ = some (.int .i64 a1_4) ∧ w'.cell? ⟨w.heap.size, 5, none⟩ = some (.int .i64 a1_5) ∧ w'.cell? ⟨w.heap.size, 6, none⟩ = some (.int .i64 a1_6) ∧ w'.cell? ⟨w.heap.size, 7, none⟩ = some (.int .i64 a1_7) ∧ w'.cell? ⟨w.heap.size, 8, none⟩ = some (.int .i64 a1_8) ∧ w'.cell? ⟨w.heap.size, 9, none⟩ = some (.int .i64 a1_9) ∧ w'.cell? ⟨w.heap.size, 10, none⟩ = some (.int .i64 a1_10) ∧ w'.cell? ⟨w.heap.size, 11, none⟩ = some (.int .i64 a1_11) ∧ w'.rangeAt (w.heap.size) 0 [.int .i64 a1_0, .int .i64 a1_1, .int .i64 a1_2, .int .i64 a1_3, .int .i64 a1_4, .int .i64 a1_5, .int .i64 a1_6, .int .i64 a1_7, .int .i64 a1_8, .int .i64 a1_9, .int .i64 a1_10, .int .i64 a1_11])
        (first | (with_reducible exact HC _ HT) | (with_reducible exact HC _ HT.drew) | (with_reducible exact HC _ (HT.alloc _)) | (with_reducible exact HC _ (HT.alloc _).drew) | (with_reducible exact HC _ (HT.far12 (by omega) (by simp <;> omega) _ _ _ _ _ _ _ _ _ _ _ _)))
        (first | (go_at_call 34; refine (HTS _ _ _ (by first | with_reducible exact (RH _ HT) | with_reducible exact (RH _ HT.drew) | with_reducible exact (RH _ (HT.alloc _)) | with_reducible exact (RH _ (HT.alloc _).drew)) hl).mono ?_; rintro e w1 ⟨rfl, hb1, R1⟩; (try simp at R1); (first | (have HT := HT.later hb1) | (have HT := HT.drew.later hb1) | (have HT := (HT.alloc _).later hb1) | (have HT := (HT.alloc _).drew.later hb1)); have hz0 := (HT.box 0).lt; (first | (have HG := (Mbox.new12' _ (.int .i64 0) (.int .i64 0) (.int .i64 0) (.int .i64 0) (.int .i64 0) (.int .i64 0) (.int .i64 0) (.int .i64 0) (.int .i64 0) (.int .i64 0) (.int .i64 0) (.int .i64 0) 27).later hb1) | (have HG := (Mbox.new12' _ (.int .i64 0) (.int .i64 0) (.int .i64 0) (.int .i64 0) (.int .i64 0) (.int .i64 0) (.int .i64 0) (.int .i64 0) (.int .i64 0) (.int .i64 0) (.int .i64 0) (.int .i64 0) 27).drew.later hb1) | (have HG := HG.later hb1) | skip); (try simp only [World.size_alloc] at HG); (try (have hg0 := HG.c 0; have gg0 := HG.f 0; have hg1 := HG.c 1; have gg1 := HG.f 1; have hg2 := HG.c 2; have gg2 := HG.f 2; have hg3 := HG.c 3; have gg3 := HG.f 3; have hg4 := HG.c 4; have gg4 := HG.f 4; have hg5 := HG.c 5; have gg5 := HG.f 5; have hg6 := HG.c 6; have gg6 := HG.f 6; have hg7 := HG.c 7; have gg7 := HG.f 7; have hg8 := HG.c 8; have gg8 := HG.f 8; have hg9 := HG.c 9; have gg9 := HG.f 9; have hg10 := HG.c 10; have gg10 := HG.f 10; have hg11 := HG.c 11; have gg11 := HG.f 11))) | (go_at_call 18; refine (toPatch_any _ _ _ _ _ _ _ _ _ _ _ _ _).mono ?_; rintro e w1 ⟨rfl, hb1⟩; (first | (have HT := HT.later hb1) | (have HT := HT.drew.later hb1) | (have HT := (HT.alloc _).later hb1) | (have HT := (HT.alloc _).drew.later hb1)); (try (first | (have R1 := R1.later hb1) | (have R1 := (rdrew R1).later hb1) | (have R1 := (ralloc R1 _).later hb1) | (have R1 := (rdrew (ralloc R1 _)).later hb1))); have hz0 := (HT.box 0).lt; (first | (have HG := (Mbox.new12' _ (.int .i64 0) (.int .i64 0) (.int .i64 0) (.int .i64 0) (.int .i64 0) (.int .i64 0) (.int .i64 0) (.int .i64 0) (.int .i64 0) (.int .i64 0) (.int .i64 0) (.int .i64 0) 27).later hb1) | (have HG := (Mbox.new12' _ (.int .i64 0) (.int .i64 0) (.int .i64 0) (.int .i64 0) (.int .i64 0) (.int .i64 0) (.int .i64 0) (.int .i64 0) (.int .i64 0) (.int .i64 0) (.int .i64 0) (.int .i64 0) 27).drew.later hb1) | (have HG := HG.later hb1) | skip); (try simp only [World.size_alloc] at HG); (try (have hg0 := HG.c 0; have gg0 := HG.f 0; have hg1 := HG.c 1; have gg1 := HG.f 1; have hg2 := HG.c 2; have gg2 := HG.f 2; have hg3 := HG.c 3; have gg3 := HG.f 3; have hg4 := HG.c 4; have gg4 := HG.f 4; have hg5 := HG.c 5; have gg5 := HG.f 5; have hg6 := HG.c 6; have gg6 := HG.f 6; have hg7 := HG.c 7; have gg7 := HG.f 7; have hg8 := HG.c 8; have gg8 := HG.f 8; have hg9 := HG.c 9; have gg9 := HG.f 9; have hg10 := HG.c 10; have gg10 := HG.f 10; have hg11 := HG.c 11; have gg11 := HG.f 11))) | (go_at_call 33; refine (HSA _ _ _ (by first | with_reducible exact R1 | with_reducible exact (rdrew R1) | with_reducible exact (ralloc R1 _) | with_reducible exact (rdrew (ralloc R1 _))) hl).mono ?_; rintro e w1 ⟨rfl, hb1⟩; (first | (have HT := HT.later hb1) | (have HT := HT.drew.later hb1) | (have HT := (HT.alloc _).later hb1) | (have HT := (HT.alloc _).drew.later hb1)); have hz0 := (HT.box 0).lt; (first | (have HG := (Mbox.new12' _ (.int .i64 0) (.int .i64 0) (.int .i64 0) (.int .i64 0) (.int .i64 0) (.int .i64 0) (.int .i64 0) (.int .i64 0) (.int .i64 0) (.int .i64 0) (.int .i64 0) (.int .i64 0) 27).later hb1) | (have HG := (Mbox.new12' _ (.int .i64 0) (.int .i64 0) (.int .i64 0) (.int .i64 0) (.int .i64 0) (.int .i64 0) (.int .i64 0) (.int .i64 0) (.int .i64 0) (.int .i64 0) (.int .i64 0) (.int .i64 0) 27).drew.later hb1) | (have HG := HG.later hb1) | skip); (try simp only [World.size_alloc] at HG); (try (have hg0 := HG.c 0; have gg0 := HG.f 0; have hg1 := HG.c 1; have gg1 := HG.f 1; have hg2 := HG.c 2; have gg2 := HG.f 2; have hg3 := HG.c 3; have gg3 := HG.f 3; have hg4 := HG.c 4; have gg4 := HG.f 4; have hg5 := HG.c 5; have gg5 := HG.f 5; have hg6 := HG.c 6; have gg6 := HG.f 6; have hg7 := HG.c 7; have gg7 := HG.f 7; have hg8 := HG.c 8; have gg8 := HG.f 8; have hg9 := HG.c 9; have gg9 := HG.f 9; have hg10 := HG.c 10; have gg10 := HG.f 10; have hg11 := HG.c 11; have gg11 := HG.f 11))))
      all_goals (go_wp2_with fail; go_meet)
      all_goals (first | with_reducible exact ⟨_, rfl, Mbox.new12' _ _ _ _ _ _ _ _ _ _ _ _ _ _, HT.alloc _⟩ | with_reducible exact ⟨_, rfl, HG.put12 _ _ _ _ _ _ _ _ _ _ _ _, HT.far12 (by omega) (by simp <;> omega) _ _ _ _ _ _ _ _ _ _ _ _⟩)
    case rest =>
      clear HC hz0 HT
      obtain ⟨g, rfl, HV, HT⟩ := hcut
      have HT := HT.cons HV
      clear HV
      go_wp2_with fail
      refine (HTS _ _ _ (RH _ HT) hl).mono ?_
      rintro e w1 ⟨rfl, hb1, R1⟩
      have HT := HT.later hb1
      clear hb1
      have c0 := (HT.box 1).c 0
      have c1 := (HT.box 1).c 1
      have c2 := (HT.box 1).c 2
      have c3 := (HT.box 1).c 3
      have c4 := (HT.box 1).c 4
      have c5 := (HT.box 1).c 5
      have c6 := (HT.box 1).c 6
      have c7 := (HT.box 1).c 7
      have c8 := (HT.box 1).c 8
      have c9 := (HT.box 1).c 9
      have c10 := (HT.box 1).c 10
      have c11 := (HT.box 1).c 11
      go_wp2_with fail
      refine (toPatch_any _ _ _ _ _ _ _ _ _ _ _ _ _).mono ?_
      rintro e w2 ⟨rfl, hb2⟩
      have HT := HT.later hb2
      have R1 := R1.later hb2
      clear hb2 c0 c1 c2 c3 c4 c5 c6 c7 c8 c9 c10 c11
      go_wp2_with fail
      refine (HIA _ _ _ R1 hl).mono ?_
      rintro e w3 ⟨rfl, hb3⟩
      have R1 := ralloc (R1.later hb3) (.cells #[.int .i64 d0, .int .i64 d1, .int .i64 d2, .int .i64 d3, .int .i64 d4, .int .i64 d5, .int .i64 d6, .int .i64 d7, .int .i64 d8, .int .i64 d9, .int .i64 d10, .int .i64 d11] 27)
      have HT := (HT.later hb3).new #[.int .i64 d0, .int .i64 d1, .int .i64 d2, .int .i64 d3, .int .i64 d4, .int .i64 d5, .int .i64 d6, .int .i64 d7, .int .i64 d8, .int .i64 d9, .int .i64 d10, .int .i64 d11] 27
      clear hb3
      have c0 := (HT.box 0).c 0
      have c1 := (HT.box 0).c 1
      have c2 := (HT.box 0).c 2
      have c3 := (HT.box 0).c 3
      have c4 := (HT.box 0).c 4
      have c5 := (HT.box 0).c 5
      have c6 := (HT.box 0).c 6
      have c7 := (HT.box 0).c 7
      have c8 := (HT.box 0).c 8
      have c9 := (HT.box 0).c 9
      have c10 := (HT.box 0).c 10
      have c11 := (HT.box 0).c 11
      have u0 := (HT.box 1).c 0
      have u1 := (HT.box 1).c 1
      have u2 := (HT.box 1).c 2
      have u3 := (HT.box 1).c 3
      have u4 := (HT.box 1).c 4
      have u5 := (HT.box 1).c 5
      have u6 := (HT.box 1).c 6
      have u7 := (HT.box 1).c 7
      have u8 := (HT.box 1).c 8
      have u9 := (HT.box 1).c 9
      have u10 := (HT.box 1).c 10
      have u11 := (HT.box 1).c 11
      go_wp2_with fail
      refine (eqPatch_same _ _ _ _ _ _ _ _ _ _ _ _ _).mono ?_
      rintro e w4 ⟨rfl, hb4⟩
      have R1 := R1.later hb4
      have HT := HT.later hb4
      clear hb4 c0 c1 c2 c3 c4 c5 c6 c7 c8 c9 c10 c11 u0 u1 u2 u3 u4 u5 u6 u7 u8 u9 u10 u11
      go_wp2_with fail
      refine (HTS _ _ _ (RH _ HT) hl).mono ?_
      rintro e w5 ⟨rfl, hb5, R2⟩
      have R1 := R1.later hb5
      have HT := HT.later hb5
      clear hb5 RH R0
      go_wp2_with fail
      refine (HEQ _ _ _ _ _ R1 R2 hl).mono ?_
      rintro e w6 ⟨rfl, hb6⟩
      have HT := HT.later hb6
      clear hb6 R1 R2
      go_wp2_with fail
      go_ret
      exact ⟨rfl, HT.below⟩
  · have hl' : (1048576 : Int) < (n : Int) := by omega
    go_enter Try.func10, Try.ntmps10
    go_wp2_with fail
    refine (szTransformS_no _ _ _ _ _ hl' (by omega) m0).mono ?_
    rintro e w' ⟨rfl, rfl⟩
    go_wp2_with fail
    go_ret
    exact ⟨rfl, by go_grown⟩

set_option maxRecDepth 100000 in
theorem lifted (os : Os) (started : os.Started) (H : Type) (enc : TypeId × Value → H) :
    ReturnsInHanded {} Try.checked os 10 .any (Rows.fnExactTransformPatchSpec.pre6 enc Try.prog Try.f10 Rows.fnExactTransformPatchRow.domain false) (Rows.fnExactTransformPatchSpec.post enc Try.prog Try.f10 false true false false) := by
  refine returnsInHanded_of_change (C := Try.checked) own started (by kernel_rfl) Try.func10
    (ChangeSpec.witness6 (enc := enc) (C := Try.checked) false ⟨#[], #[.slice none 0 0, .agg #[.int .i64 0, .int .i64 0, .int .i64 0, .int .i64 0, .int .i64 0, .int .i64 0, .int .i64 0, .int .i64 0, .int .i64 0, .int .i64 0, .int .i64 0, .int .i64 0]], []⟩ 8 (by kernel_rfl) (by kernel_rfl) (by kernel_rfl) (by kernel_rfl)) ?_
  intro W base args ds gs before hval0 hW hcnd _
  have hval : ∀ (j : Nat) t v, Try.f10.params[j]? = some t → args[j]? = some v → Value.okWide Try.prog W .any base t v := hval0
  have hW' := hW
  obtain ⟨p, q, hA0, hV, rfl, hfz, hnd⟩ := hW
  have hA : DataW.TrodAll enc Try.prog W 0 (fun _ => true) true Try.f10.params.toList args.toList ds p := hA0
  rw [Try.params10] at hA hval
  obtain ⟨v0, vs0, d0, ds0, p0, q0, hargs, rfl, rfl, h0, r1000⟩ := trodAll_cons hA
  obtain ⟨v1, vs1, d1, ds1, p1, q1, rfl, rfl, rfl, h1, r1001⟩ := trodAll_cons r1000
  obtain ⟨rfl, rfl, rfl⟩ := trodAll_nil r1001
  obtain rfl : args = #[v0, v1] := by cases args; simp_all
  obtain ⟨rfl, rfl⟩ := trodVars_none hV
  obtain ⟨a0, len0, cap0, rfl⟩ := okWide_slice Try.underlying54 (hval 0 54 v0 rfl rfl)
  have k0 := h0
  have lt0 : ∀ x ∈ p0, x.block < W.heap.size := by obtain ⟨m, hm⟩ := k0; exact DataW.trod_lt m _ _ _ hm
  obtain ⟨x0, rfl, r0, m0⟩ := rows_of_flat t12 tg tg_t12 Try.underlying54 (by kernel_rfl) flat93_ (by omega) h0
  have k1 := h1
  have lt1 : ∀ x ∈ p1, x.block < W.heap.size := by obtain ⟨m, hm⟩ := k1; exact DataW.trod_lt m _ _ _ hm
  have hv1 := hval 1 41 v1 rfl rfl
  obtain ⟨zs1, hzs1, rfl, wzs1⟩ := open_flat (P := Try.prog) (t := 41) (n := 12) Try.underlying41 flat41_ hv1 h1
  obtain ⟨a1_0, a1_1, a1_2, a1_3, a1_4, a1_5, a1_6, a1_7, a1_8, a1_9, a1_10, a1_11, rfl⟩ := list12 hzs1
  clear hA0
  refine (walk W a0 cap0 x0 r0 m0 a1_0 a1_1 a1_2 a1_3 a1_4 a1_5 a1_6 a1_7 a1_8 a1_9 a1_10 a1_11 (wzs1 _ (by simp)) (wzs1 _ (by simp)) (wzs1 _ (by simp)) (wzs1 _ (by simp)) (wzs1 _ (by simp)) (wzs1 _ (by simp)) (wzs1 _ (by simp)) (wzs1 _ (by simp)) (wzs1 _ (by simp)) (wzs1 _ (by simp)) (wzs1 _ (by simp)) (wzs1 _ (by simp))).mono fun e W' ⟨he, bel⟩ => ?_
  subst he
  exact ⟨_, rfl, _, _, _, [], _, [], hW', trodAll_mk1 (shut_bool Try.underlying4 _), (trodAll_cons_mk (Below.trod laidOut (by kernel_rfl) (of_decide_eq_true (by kernel_rfl)) k0 bel lt0) (trodAll_cons_mk (Below.trod laidOut (by kernel_rfl) (of_decide_eq_true (by kernel_rfl)) k1 bel lt1) trodAll_mk0)), rfl, bel.frame _, fun h => by cases h⟩

theorem proved : Rows.FnExactTransformPatchSaid :=
  OpenClaim.holds_of_wide 10 Try.f10 rfl rfl rfl rfl rfl rfl rfl ⟨rfl, rfl, rfl, rfl, rfl⟩ rfl rfl rfl rfl rfl (by kernel_rfl) Try.func10 (by kernel_rfl)
    (of_decide_eq_true (by kernel_rfl)) (by unfold Func.isWrapper; first | (rw [if_pos (by decide +kernel)]; kernel_rfl) | (rw [if_neg (by decide +kernel)]; exact ⟨rfl, rfl⟩))
    (fun os started H enc _ => lifted os started H enc)
#print axioms proved
end Go.Proofs.Ytjflkapdnnecjaa.fnExactTransformPatch
