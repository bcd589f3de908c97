/-
  Proved: the law FnExactTriangleBounds returns true for every input and its arguments read behind the call as they read before. Conditions: none of our own; those of the given row alone.
-/
import Derived.Test.YtjjafbcfmijppaaRows
import Derived.WalkKit
import Derived.ProofKit
import Derived.OpenShut
import Derived.ShutString
import Derived.SliceStrings
import Derived.ChangeOld
import Derived.Below
import Derived.Test.YtjjafbcfmijppaaInts
import Derived.Test.YtjjafbcfmijppaaMem
import Derived.Test.YtjjafbcfmijppaaFlat
import Derived.Test.YtjjafbcfmijppaaVbox
import Derived.Test.YtjjafbcfmijppaaVec
import Derived.Test.YtjjafbcfmijppaaHeld
import Derived.Test.YtjjafbcfmijppaaArr
import Derived.Test.YtjjafbcfmijppaaTr
import Derived.Test.YtjjafbcfmijppaaRowC
import Derived.Test.YtjjafbcfmijppaaPat
import Derived.Test.YtjjafbcfmijppaaCam
import Derived.Test.YtjjafbcfmijppaaCPrj
import Derived.Test.YtjjafbcfmijppaaTri
import Derived.Test.YtjjafbcfmijppaaTCl
import Derived.Test.YtjjafbcfmijppaaBox
import Derived.Test.YtjjafbcfmijppaaBPts
import Derived.Test.YtjjafbcfmijppaaTBd
import Derived.Deep.RegionHeld3
import Derived.Deep.DeepCutAuto
import Derived.Handy
namespace Go.Proofs.Ytjjafbcfmijppaa.fnExactTriangleBounds
open Go.ChangeShapes Go.WideShapes Go.ChangeAt Go.RowKit
open Go.ChangeMaps (open_string shut_string)
set_option linter.unusedVariables false

theorem own : ownKnob Try.prog.godebug = none := by kernel_rfl
theorem laidOut : laidOutB Try.prog = true := by kernel_rfl
theorem flat3 : FlatI Try.prog 3 (Try.prog.cellsOf 3) := by rw [show Try.prog.cellsOf 3 = 1 by kernel_rfl]; exact flat1 Try.underlying3
theorem cells39 : Try.prog.cellsOf 39 = 3 := by kernel_rfl
theorem flatE39 : FlatI Try.prog 39 3 := flatS Try.underlying39 cells39 (by exact ⟨by kernel_rfl, flat3, ⟨by kernel_rfl, flat3, ⟨by kernel_rfl, flat3, by unfold FlatFs; kernel_rfl⟩⟩⟩)
theorem cellsE39 : Try.prog.cellsOf 39 = 3 := by kernel_rfl
theorem cellsA40 : Try.prog.cellsOf 40 = 3 * 3 := by kernel_rfl
theorem flat40 : FlatI Try.prog 40 (Try.prog.cellsOf 40) := by rw [show Try.prog.cellsOf 40 = 9 by kernel_rfl]; exact flatA Try.underlying40 cellsA40 cellsE39 flatE39
theorem cells42 : Try.prog.cellsOf 42 = 9 := by kernel_rfl
theorem flat42_ : FlatI Try.prog 42 9 := flatS Try.underlying42 cells42 (by exact ⟨by kernel_rfl, flat40, by unfold FlatFs; kernel_rfl⟩)
set_option maxHeartbeats 4000000 in
theorem walk (w : World) (a0_0 a0_1 a0_2 a0_3 a0_4 a0_5 a0_6 a0_7 a0_8 : Int) (w0_0 : (Lit.int .i64 a0_0).wf = true) (w0_1 : (Lit.int .i64 a0_1).wf = true) (w0_2 : (Lit.int .i64 a0_2).wf = true) (w0_3 : (Lit.int .i64 a0_3).wf = true) (w0_4 : (Lit.int .i64 a0_4).wf = true) (w0_5 : (Lit.int .i64 a0_5).wf = true) (w0_6 : (Lit.int .i64 a0_6).wf = true) (w0_7 : (Lit.int .i64 a0_7).wf = true) (w0_8 : (Lit.int .i64 a0_8).wf = true) :
    Calls Try.prog 9 #[.agg #[.int .i64 a0_0, .int .i64 a0_1, .int .i64 a0_2, .int .i64 a0_3, .int .i64 a0_4, .int .i64 a0_5, .int .i64 a0_6, .int .i64 a0_7, .int .i64 a0_8]] w fun e w' => e = .returned (.bool true) ∧ Below w.heap.size w w' := by
  have HT : Held w (w.alloc (.cells #[.int .i64 a0_0, .int .i64 a0_1, .int .i64 a0_2, .int .i64 a0_3, .int .i64 a0_4, .int .i64 a0_5, .int .i64 a0_6, .int .i64 a0_7, .int .i64 a0_8] 42)) [(w.heap.size, [.int .i64 a0_0, .int .i64 a0_1, .int .i64 a0_2, .int .i64 a0_3, .int .i64 a0_4, .int .i64 a0_5, .int .i64 a0_6, .int .i64 a0_7, .int .i64 a0_8])] := by
    have h := (Held.nil w).new #[.int .i64 a0_0, .int .i64 a0_1, .int .i64 a0_2, .int .i64 a0_3, .int .i64 a0_4, .int .i64 a0_5, .int .i64 a0_6, .int .i64 a0_7, .int .i64 a0_8] 42
    simpa only [World.size_alloc] using h
  obtain ⟨q0, q1, q2, q3, q4, q5, HSA, HIA⟩ : ∃ q0 q1 q2 q3 q4 q5, (∀ w : World, Calls Try.prog 23 #[mat a0_0 a0_1 a0_2 a0_3 a0_4 a0_5 a0_6 a0_7 a0_8] w (BoxOut q0 q1 q2 q3 q4 q5 w)) ∧ (∀ w : World, Calls Try.prog 15 #[mat a0_0 a0_1 a0_2 a0_3 a0_4 a0_5 a0_6 a0_7 a0_8] w (BoxOut q0 q1 q2 q3 q4 q5 w)) := ⟨_, _, _, _, _, _, fun w => sTriangleBounds_any a0_0 a0_1 a0_2 a0_3 a0_4 a0_5 a0_6 a0_7 a0_8 w, fun w => triangleBounds_any a0_0 a0_1 a0_2 a0_3 a0_4 a0_5 a0_6 a0_7 a0_8 w⟩
  have HSA := Lib.hid HSA
  have HIA := Lib.hid HIA
  go_enter Try.func9, Try.ntmps9
  go_wp2_with fail
  refine (toTriangle_any _ _ _ _ _ _ _ _ _ _).mono ?_
  rintro e w1 ⟨rfl, hb1⟩
  have HT := HT.later hb1
  clear hb1
  go_wp2_with fail
  refine (HSA.out _).mono ?_
  rintro e w2 ⟨rfl, hb2⟩
  have HT := (HT.later hb2).new #[.int .i64 q0, .int .i64 q1, .int .i64 q2, .int .i64 q3, .int .i64 q4, .int .i64 q5] 36
  clear hb2
  have c0 := (HT.box 1).c 0
  have c1 := (HT.box 1).c 1
  have c2 := (HT.box 1).c 2
  have c3 := (HT.box 1).c 3
  have c4 := (HT.box 1).c 4
  have c5 := (HT.box 1).c 5
  have c6 := (HT.box 1).c 6
  have c7 := (HT.box 1).c 7
  have c8 := (HT.box 1).c 8
  go_wp2_with fail
  refine (toTriangle_any _ _ _ _ _ _ _ _ _ _).mono ?_
  rintro e w3 ⟨rfl, hb3⟩
  have HT := HT.later hb3
  clear hb3 c0 c1 c2 c3 c4 c5 c6 c7 c8
  go_wp2_with fail
  refine (HIA.out _).mono ?_
  rintro e w4 ⟨rfl, hb4⟩
  have HT := (HT.later hb4).new #[.int .i64 q0, .int .i64 q1, .int .i64 q2, .int .i64 q3, .int .i64 q4, .int .i64 q5] 36
  clear hb4
  have c0 := (HT.box 1).c 0
  have c1 := (HT.box 1).c 1
  have c2 := (HT.box 1).c 2
  have c3 := (HT.box 1).c 3
  have c4 := (HT.box 1).c 4
  have c5 := (HT.box 1).c 5
  have d0 := (HT.box 0).c 0
  have d1 := (HT.box 0).c 1
  have d2 := (HT.box 0).c 2
  have d3 := (HT.box 0).c 3
  have d4 := (HT.box 0).c 4
  have d5 := (HT.box 0).c 5
  go_wp2_with fail
  refine (eqBox_same _ _ _ _ _ _ _).mono ?_
  rintro e w5 ⟨rfl, hb5⟩
  have HT := HT.later hb5
  clear hb5 c0 c1 c2 c3 c4 c5 d0 d1 d2 d3 d4 d5
  go_wp2_with fail
  go_ret
  exact ⟨rfl, HT.below⟩

set_option maxRecDepth 100000 in
theorem lifted (os : Os) (started : os.Started) (H : Type) (enc : TypeId × Value → H) :
    ReturnsInHanded {} Try.checked os 9 .any (Rows.fnExactTriangleBoundsSpec.pre6 enc Try.prog Try.f9 Rows.fnExactTriangleBoundsRow.domain false) (Rows.fnExactTriangleBoundsSpec.post enc Try.prog Try.f9 false true false false) := by
  refine returnsInHanded_of_change (C := Try.checked) own started (by kernel_rfl) Try.func9
    (ChangeSpec.witness6 (enc := enc) (C := Try.checked) false ⟨#[], #[.agg #[.int .i64 0, .int .i64 0, .int .i64 0, .int .i64 0, .int .i64 0, .int .i64 0, .int .i64 0, .int .i64 0, .int .i64 0]], []⟩ 8 (by kernel_rfl) (by kernel_rfl) (by kernel_rfl) (by kernel_rfl)) ?_
  intro W base args ds gs before hval0 hW hcnd _
  have hval : ∀ (j : Nat) t v, Try.f9.params[j]? = some t → args[j]? = some v → Value.okWide Try.prog W .any base t v := hval0
  have hW' := hW
  obtain ⟨p, q, hA0, hV, rfl, hfz, hnd⟩ := hW
  have hA : DataW.TrodAll enc Try.prog W 0 (fun _ => true) true Try.f9.params.toList args.toList ds p := hA0
  rw [Try.params9] at hA hval
  obtain ⟨v0, vs0, d0, ds0, p0, q0, hargs, rfl, rfl, h0, r1000⟩ := trodAll_cons hA
  obtain ⟨rfl, rfl, rfl⟩ := trodAll_nil r1000
  obtain rfl : args = #[v0] := by cases args; simp_all
  obtain ⟨rfl, rfl⟩ := trodVars_none hV
  have k0 := h0
  have lt0 : ∀ x ∈ p0, x.block < W.heap.size := by obtain ⟨m, hm⟩ := k0; exact DataW.trod_lt m _ _ _ hm
  have hv0 := hval 0 42 v0 rfl rfl
  obtain ⟨zs0, hzs0, rfl, wzs0⟩ := open_flat (P := Try.prog) (t := 42) (n := 9) Try.underlying42 flat42_ hv0 h0
  obtain ⟨a0_0, a0_1, a0_2, a0_3, a0_4, a0_5, a0_6, a0_7, a0_8, rfl⟩ := list9 hzs0
  clear hA0
  refine (walk W a0_0 a0_1 a0_2 a0_3 a0_4 a0_5 a0_6 a0_7 a0_8 (wzs0 _ (by simp)) (wzs0 _ (by simp)) (wzs0 _ (by simp)) (wzs0 _ (by simp)) (wzs0 _ (by simp)) (wzs0 _ (by simp)) (wzs0 _ (by simp)) (wzs0 _ (by simp)) (wzs0 _ (by simp))).mono fun e W' ⟨he, bel⟩ => ?_
  subst he
  exact ⟨_, rfl, _, _, _, [], _, [], hW', trodAll_mk1 (shut_bool Try.underlying4 _), (trodAll_cons_mk (Below.trod laidOut (by kernel_rfl) (of_decide_eq_true (by kernel_rfl)) k0 bel lt0) trodAll_mk0), rfl, bel.frame _, fun h => by cases h⟩

theorem proved : Rows.FnExactTriangleBoundsSaid :=
  OpenClaim.holds_of_wide 9 Try.f9 rfl rfl rfl rfl rfl rfl rfl ⟨rfl, rfl, rfl, rfl, rfl⟩ rfl rfl rfl rfl rfl (by kernel_rfl) Try.func9 (by kernel_rfl)
    (of_decide_eq_true (by kernel_rfl)) (by unfold Func.isWrapper; first | (rw [if_pos (by decide +kernel)]; kernel_rfl) | (rw [if_neg (by decide +kernel)]; exact ⟨rfl, rfl⟩))
    (fun os started H enc _ => lifted os started H enc)
#print axioms proved
end Go.Proofs.Ytjjafbcfmijppaa.fnExactTriangleBounds
