/-
  Proved: the law FnExactPatchBounds returns true for every input and its arguments read behind the call as they read before. Conditions: none of our own; those of the given row alone.
-/
import Derived.Test.YtjflkapdnnecjaaRows
import Derived.WalkKit
import Derived.ProofKit
import Derived.OpenShut
import Derived.ShutString
import Derived.SliceStrings
import Derived.ChangeOld
import Derived.Below
import Derived.Test.YtjflkapdnnecjaaFlat
import Derived.Test.YtjflkapdnnecjaaVbox
import Derived.Test.YtjflkapdnnecjaaVec
import Derived.Test.YtjflkapdnnecjaaHeld
import Derived.Test.YtjflkapdnnecjaaArr
import Derived.Test.YtjflkapdnnecjaaTr
import Derived.Test.YtjflkapdnnecjaaMem
import Derived.Test.YtjflkapdnnecjaaRowC
import Derived.Test.YtjflkapdnnecjaaPat
import Derived.Test.YtjflkapdnnecjaaPTo
import Derived.Test.YtjflkapdnnecjaaBox
import Derived.Test.YtjflkapdnnecjaaBUnion
import Derived.Test.YtjflkapdnnecjaaBPts
import Derived.Test.YtjflkapdnnecjaaPBd
import Derived.Deep.RegionHeld3
import Derived.Deep.DeepCutAuto
import Derived.Handy
namespace Go.Proofs.Ytjflkapdnnecjaa.fnExactPatchBounds
open Go.ChangeShapes Go.WideShapes Go.ChangeAt Go.RowKit
open Go.ChangeMaps (open_string shut_string)
set_option linter.unusedVariables false

theorem own : ownKnob Try.prog.godebug = none := by kernel_rfl
theorem laidOut : laidOutB Try.prog = true := by kernel_rfl
theorem flat3 : FlatI Try.prog 3 (Try.prog.cellsOf 3) := by rw [show Try.prog.cellsOf 3 = 1 by kernel_rfl]; exact flat1 Try.underlying3
theorem cells38 : Try.prog.cellsOf 38 = 3 := by kernel_rfl
theorem flatE38 : FlatI Try.prog 38 3 := flatS Try.underlying38 cells38 (by exact ⟨by kernel_rfl, flat3, ⟨by kernel_rfl, flat3, ⟨by kernel_rfl, flat3, by unfold FlatFs; kernel_rfl⟩⟩⟩)
theorem cellsE38 : Try.prog.cellsOf 38 = 3 := by kernel_rfl
theorem cellsA39 : Try.prog.cellsOf 39 = 4 * 3 := by kernel_rfl
theorem flat39 : FlatI Try.prog 39 (Try.prog.cellsOf 39) := by rw [show Try.prog.cellsOf 39 = 12 by kernel_rfl]; exact flatA Try.underlying39 cellsA39 cellsE38 flatE38
theorem cells41 : Try.prog.cellsOf 41 = 12 := by kernel_rfl
theorem flat41_ : FlatI Try.prog 41 12 := flatS Try.underlying41 cells41 (by exact ⟨by kernel_rfl, flat39, by unfold FlatFs; kernel_rfl⟩)
set_option maxHeartbeats 4000000 in
theorem walk (w : World) (a0_0 a0_1 a0_2 a0_3 a0_4 a0_5 a0_6 a0_7 a0_8 a0_9 a0_10 a0_11 : Int) (w0_0 : (Lit.int .i64 a0_0).wf = true) (w0_1 : (Lit.int .i64 a0_1).wf = true) (w0_2 : (Lit.int .i64 a0_2).wf = true) (w0_3 : (Lit.int .i64 a0_3).wf = true) (w0_4 : (Lit.int .i64 a0_4).wf = true) (w0_5 : (Lit.int .i64 a0_5).wf = true) (w0_6 : (Lit.int .i64 a0_6).wf = true) (w0_7 : (Lit.int .i64 a0_7).wf = true) (w0_8 : (Lit.int .i64 a0_8).wf = true) (w0_9 : (Lit.int .i64 a0_9).wf = true) (w0_10 : (Lit.int .i64 a0_10).wf = true) (w0_11 : (Lit.int .i64 a0_11).wf = true) :
    Calls Try.prog 11 #[.agg #[.int .i64 a0_0, .int .i64 a0_1, .int .i64 a0_2, .int .i64 a0_3, .int .i64 a0_4, .int .i64 a0_5, .int .i64 a0_6, .int .i64 a0_7, .int .i64 a0_8, .int .i64 a0_9, .int .i64 a0_10, .int .i64 a0_11]] w fun e w' => e = .returned (.bool true) ∧ Below w.heap.size w w' := by
  have HT : Held w (w.alloc (.cells #[.int .i64 a0_0, .int .i64 a0_1, .int .i64 a0_2, .int .i64 a0_3, .int .i64 a0_4, .int .i64 a0_5, .int .i64 a0_6, .int .i64 a0_7, .int .i64 a0_8, .int .i64 a0_9, .int .i64 a0_10, .int .i64 a0_11] 41)) [(w.heap.size, [.int .i64 a0_0, .int .i64 a0_1, .int .i64 a0_2, .int .i64 a0_3, .int .i64 a0_4, .int .i64 a0_5, .int .i64 a0_6, .int .i64 a0_7, .int .i64 a0_8, .int .i64 a0_9, .int .i64 a0_10, .int .i64 a0_11])] := by
    have h := (Held.nil w).new #[.int .i64 a0_0, .int .i64 a0_1, .int .i64 a0_2, .int .i64 a0_3, .int .i64 a0_4, .int .i64 a0_5, .int .i64 a0_6, .int .i64 a0_7, .int .i64 a0_8, .int .i64 a0_9, .int .i64 a0_10, .int .i64 a0_11] 41
    simpa only [World.size_alloc] using h
  obtain ⟨d0, e0⟩ : ∃ d, d = mnF cx (a0_0, a0_1, a0_2) [(a0_3, a0_4, a0_5), (a0_6, a0_7, a0_8), (a0_9, a0_10, a0_11)] := ⟨_, rfl⟩
  obtain ⟨d1, e1⟩ : ∃ d, d = mnF cy (a0_0, a0_1, a0_2) [(a0_3, a0_4, a0_5), (a0_6, a0_7, a0_8), (a0_9, a0_10, a0_11)] := ⟨_, rfl⟩
  obtain ⟨d2, e2⟩ : ∃ d, d = mnF cz (a0_0, a0_1, a0_2) [(a0_3, a0_4, a0_5), (a0_6, a0_7, a0_8), (a0_9, a0_10, a0_11)] := ⟨_, rfl⟩
  obtain ⟨d3, e3⟩ : ∃ d, d = mxF cx (a0_0, a0_1, a0_2) [(a0_3, a0_4, a0_5), (a0_6, a0_7, a0_8), (a0_9, a0_10, a0_11)] := ⟨_, rfl⟩
  obtain ⟨d4, e4⟩ : ∃ d, d = mxF cy (a0_0, a0_1, a0_2) [(a0_3, a0_4, a0_5), (a0_6, a0_7, a0_8), (a0_9, a0_10, a0_11)] := ⟨_, rfl⟩
  obtain ⟨d5, e5⟩ : ∃ d, d = mxF cz (a0_0, a0_1, a0_2) [(a0_3, a0_4, a0_5), (a0_6, a0_7, a0_8), (a0_9, a0_10, a0_11)] := ⟨_, rfl⟩
  have HSA : ∀ w : World, Calls Try.prog 38 #[tr a0_0 a0_1 a0_2 a0_3 a0_4 a0_5 a0_6 a0_7 a0_8 a0_9 a0_10 a0_11] w (BoxOut d0 d1 d2 d3 d4 d5 w) := fun w => by rw [e0, e1, e2, e3, e4, e5]; exact sPatchBounds_any a0_0 a0_1 a0_2 a0_3 a0_4 a0_5 a0_6 a0_7 a0_8 a0_9 a0_10 a0_11 w
  have HIA : ∀ w : World, Calls Try.prog 39 #[tr a0_0 a0_1 a0_2 a0_3 a0_4 a0_5 a0_6 a0_7 a0_8 a0_9 a0_10 a0_11] w (BoxOut d0 d1 d2 d3 d4 d5 w) := fun w => by rw [e0, e1, e2, e3, e4, e5]; exact patchBounds_any a0_0 a0_1 a0_2 a0_3 a0_4 a0_5 a0_6 a0_7 a0_8 a0_9 a0_10 a0_11 w
  clear e0 e1 e2 e3 e4 e5
  go_enter Try.func11, Try.ntmps11
  go_wp2_with fail
  refine (toPatch_any _ _ _ _ _ _ _ _ _ _ _ _ _).mono ?_
  rintro e w1 ⟨rfl, hb1⟩
  have HT := (HT.later hb1)
  clear hb1
  go_wp2_with fail
  refine (HSA _).mono ?_
  rintro e w2 ⟨rfl, hb2⟩
  have HT := (HT.later hb2).new #[.int .i64 d0, .int .i64 d1, .int .i64 d2, .int .i64 d3, .int .i64 d4, .int .i64 d5] 63
  clear hb2
  have c0 := (HT.box 1).c 0
  have c1 := (HT.box 1).c 1
  have c2 := (HT.box 1).c 2
  have c3 := (HT.box 1).c 3
  have c4 := (HT.box 1).c 4
  have c5 := (HT.box 1).c 5
  have c6 := (HT.box 1).c 6
  have c7 := (HT.box 1).c 7
  have c8 := (HT.box 1).c 8
  have c9 := (HT.box 1).c 9
  have c10 := (HT.box 1).c 10
  have c11 := (HT.box 1).c 11
  go_wp2_with fail
  refine (toPatch_any _ _ _ _ _ _ _ _ _ _ _ _ _).mono ?_
  rintro e w3 ⟨rfl, hb3⟩
  have HT := (HT.later hb3)
  clear hb3
  clear c0 c1 c2 c3 c4 c5 c6 c7 c8 c9 c10 c11
  go_wp2_with fail
  refine (HIA _).mono ?_
  rintro e w4 ⟨rfl, hb4⟩
  have HT := (HT.later hb4).new #[.int .i64 d0, .int .i64 d1, .int .i64 d2, .int .i64 d3, .int .i64 d4, .int .i64 d5] 63
  clear hb4
  have c0 := (HT.box 0).c 0
  have c1 := (HT.box 0).c 1
  have c2 := (HT.box 0).c 2
  have c3 := (HT.box 0).c 3
  have c4 := (HT.box 0).c 4
  have c5 := (HT.box 0).c 5
  have u0 := (HT.box 1).c 0
  have u1 := (HT.box 1).c 1
  have u2 := (HT.box 1).c 2
  have u3 := (HT.box 1).c 3
  have u4 := (HT.box 1).c 4
  have u5 := (HT.box 1).c 5
  go_wp2_with fail
  refine (eqBox_same _ _ _ _ _ _ _).mono ?_
  rintro e w5 ⟨rfl, hb5⟩
  have HT := (HT.later hb5)
  clear hb5
  clear c0 c1 c2 c3 c4 c5 u0 u1 u2 u3 u4 u5 HSA HIA
  go_wp2_with fail
  go_ret
  exact ⟨rfl, HT.below⟩

set_option maxRecDepth 100000 in
theorem lifted (os : Os) (started : os.Started) (H : Type) (enc : TypeId × Value → H) :
    ReturnsInHanded {} Try.checked os 11 .any (Rows.fnExactPatchBoundsSpec.pre6 enc Try.prog Try.f11 Rows.fnExactPatchBoundsRow.domain false) (Rows.fnExactPatchBoundsSpec.post enc Try.prog Try.f11 false true false false) := by
  refine returnsInHanded_of_change (C := Try.checked) own started (by kernel_rfl) Try.func11
    (ChangeSpec.witness6 (enc := enc) (C := Try.checked) false ⟨#[], #[.agg #[.int .i64 0, .int .i64 0, .int .i64 0, .int .i64 0, .int .i64 0, .int .i64 0, .int .i64 0, .int .i64 0, .int .i64 0, .int .i64 0, .int .i64 0, .int .i64 0]], []⟩ 8 (by kernel_rfl) (by kernel_rfl) (by kernel_rfl) (by kernel_rfl)) ?_
  intro W base args ds gs before hval0 hW hcnd _
  have hval : ∀ (j : Nat) t v, Try.f11.params[j]? = some t → args[j]? = some v → Value.okWide Try.prog W .any base t v := hval0
  have hW' := hW
  obtain ⟨p, q, hA0, hV, rfl, hfz, hnd⟩ := hW
  have hA : DataW.TrodAll enc Try.prog W 0 (fun _ => true) true Try.f11.params.toList args.toList ds p := hA0
  rw [Try.params11] at hA hval
  obtain ⟨v0, vs0, d0, ds0, p0, q0, hargs, rfl, rfl, h0, r1000⟩ := trodAll_cons hA
  obtain ⟨rfl, rfl, rfl⟩ := trodAll_nil r1000
  obtain rfl : args = #[v0] := by cases args; simp_all
  obtain ⟨rfl, rfl⟩ := trodVars_none hV
  have k0 := h0
  have lt0 : ∀ x ∈ p0, x.block < W.heap.size := by obtain ⟨m, hm⟩ := k0; exact DataW.trod_lt m _ _ _ hm
  have hv0 := hval 0 41 v0 rfl rfl
  obtain ⟨zs0, hzs0, rfl, wzs0⟩ := open_flat (P := Try.prog) (t := 41) (n := 12) Try.underlying41 flat41_ hv0 h0
  obtain ⟨a0_0, a0_1, a0_2, a0_3, a0_4, a0_5, a0_6, a0_7, a0_8, a0_9, a0_10, a0_11, rfl⟩ := list12 hzs0
  clear hA0
  refine (walk W a0_0 a0_1 a0_2 a0_3 a0_4 a0_5 a0_6 a0_7 a0_8 a0_9 a0_10 a0_11 (wzs0 _ (by simp)) (wzs0 _ (by simp)) (wzs0 _ (by simp)) (wzs0 _ (by simp)) (wzs0 _ (by simp)) (wzs0 _ (by simp)) (wzs0 _ (by simp)) (wzs0 _ (by simp)) (wzs0 _ (by simp)) (wzs0 _ (by simp)) (wzs0 _ (by simp)) (wzs0 _ (by simp))).mono fun e W' ⟨he, bel⟩ => ?_
  subst he
  exact ⟨_, rfl, _, _, _, [], _, [], hW', trodAll_mk1 (shut_bool Try.underlying4 _), (trodAll_cons_mk (Below.trod laidOut (by kernel_rfl) (of_decide_eq_true (by kernel_rfl)) k0 bel lt0) trodAll_mk0), rfl, bel.frame _, fun h => by cases h⟩

theorem proved : Rows.FnExactPatchBoundsSaid :=
  OpenClaim.holds_of_wide 11 Try.f11 rfl rfl rfl rfl rfl rfl rfl ⟨rfl, rfl, rfl, rfl, rfl⟩ rfl rfl rfl rfl rfl (by kernel_rfl) Try.func11 (by kernel_rfl)
    (of_decide_eq_true (by kernel_rfl)) (by unfold Func.isWrapper; first | (rw [if_pos (by decide +kernel)]; kernel_rfl) | (rw [if_neg (by decide +kernel)]; exact ⟨rfl, rfl⟩))
    (fun os started H enc _ => lifted os started H enc)
#print axioms proved
end Go.Proofs.Ytjflkapdnnecjaa.fnExactPatchBounds
