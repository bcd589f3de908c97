/-
  Proved: the law FnExactUniformScale returns true for every input and its arguments read behind the call as they read before. Conditions: none of our own; those of the given row alone.
-/
import Derived.Test.YtjneionmliknhaaRows
import Derived.WalkKit
import Derived.ProofKit
import Derived.OpenShut
import Derived.ShutString
import Derived.SliceStrings
import Derived.ChangeOld
import Derived.Below
import Derived.Test.YtjneionmliknhaaFlat
import Derived.Test.YtjneionmliknhaaVbox
import Derived.Test.YtjneionmliknhaaVec
import Derived.Test.YtjneionmliknhaaHeld
import Derived.Test.YtjneionmliknhaaArr
import Derived.Test.YtjneionmliknhaaTr
import Derived.Test.YtjneionmliknhaaTTo
import Derived.Test.YtjneionmliknhaaTMat
import Derived.Test.YtjneionmliknhaaTIden
import Derived.Test.YtjneionmliknhaaTUni
import Derived.Deep.RegionHeld3
import Derived.Deep.DeepCutAuto
import Derived.Handy
import Derived.Test.YtjneionmliknhaaMem
namespace Go.Proofs.Ytjneionmliknhaa.fnExactUniformScale
open Go.ChangeShapes Go.WideShapes Go.ChangeAt Go.RowKit
open Go.ChangeMaps (open_string shut_string)
set_option linter.unusedVariables false

theorem own : ownKnob Try.prog.godebug = none := by kernel_rfl
theorem laidOut : laidOutB Try.prog = true := by kernel_rfl
set_option maxHeartbeats 4000000 in
theorem walk (w : World) (a0 : Int) (w0 : (Lit.int .i64 a0).wf = true) :
    Calls Try.prog 8 #[.int .i64 a0] w fun e w' => e = .returned (.bool true) ∧ Below w.heap.size w w' := by
  have HT := Held.nil w
  by_cases hk : -64 ≤ a0 ∧ a0 ≤ 64
  · have HK := Lib.hid hk
    clear hk
    go_enter Try.func8, Try.ntmps8
    go_wp2_with fail
    refine (sUniformScale_in _ _ HK.out.1 HK.out.2).mono ?_
    rintro e w1 ⟨rfl, hb1⟩
    have HT := (HT.later hb1).new #[.int .i64 a0, .int .i64 0, .int .i64 0, .int .i64 0, .int .i64 a0, .int .i64 0, .int .i64 0, .int .i64 0, .int .i64 a0, .int .i64 0, .int .i64 0, .int .i64 0] 30
    clear hb1
    go_wp2_with fail
    refine (uniformScale_in _ _ HK.out.1 HK.out.2).mono ?_
    rintro e w2 ⟨rfl, hb2⟩
    have HT := (HT.later hb2).new #[.int .i64 a0, .int .i64 0, .int .i64 0, .int .i64 0, .int .i64 a0, .int .i64 0, .int .i64 0, .int .i64 0, .int .i64 a0, .int .i64 0, .int .i64 0, .int .i64 0] 30
    clear hb2
    have c0 := (HT.box 0).c 0
    have c1 := (HT.box 0).c 1
    have c2 := (HT.box 0).c 2
    have c3 := (HT.box 0).c 3
    have c4 := (HT.box 0).c 4
    have c5 := (HT.box 0).c 5
    have c6 := (HT.box 0).c 6
    have c7 := (HT.box 0).c 7
    have c8 := (HT.box 0).c 8
    have c9 := (HT.box 0).c 9
    have c10 := (HT.box 0).c 10
    have c11 := (HT.box 0).c 11
    have d0 := (HT.box 1).c 0
    have d1 := (HT.box 1).c 1
    have d2 := (HT.box 1).c 2
    have d3 := (HT.box 1).c 3
    have d4 := (HT.box 1).c 4
    have d5 := (HT.box 1).c 5
    have d6 := (HT.box 1).c 6
    have d7 := (HT.box 1).c 7
    have d8 := (HT.box 1).c 8
    have d9 := (HT.box 1).c 9
    have d10 := (HT.box 1).c 10
    have d11 := (HT.box 1).c 11
    go_wp2_with fail
    refine (eqTransform_same _ _ _ _ _ _ _ _ _ _ _ _ _).mono ?_
    rintro e w3 ⟨rfl, hb3⟩
    have HT := (HT.later hb3)
    clear hb3
    clear c0 c1 c2 c3 c4 c5 c6 c7 c8 c9 c10 c11 d0 d1 d2 d3 d4 d5 d6 d7 d8 d9 d10 d11
    go_wp2_with fail
    go_ret
    exact ⟨rfl, HT.below⟩
  · have HK := Lib.hid hk
    clear hk
    go_enter Try.func8, Try.ntmps8
    go_wp2_with fail
    refine (sUniformScale_out _ _ HK.out).mono ?_
    rintro e w1 ⟨rfl, hb1⟩
    have HT := (HT.later hb1).new #[.int .i64 16, .int .i64 0, .int .i64 0, .int .i64 0, .int .i64 16, .int .i64 0, .int .i64 0, .int .i64 0, .int .i64 16, .int .i64 0, .int .i64 0, .int .i64 0] 30
    clear hb1
    go_wp2_with fail
    refine (uniformScale_out _ _ HK.out).mono ?_
    rintro e w2 ⟨rfl, hb2⟩
    have HT := (HT.later hb2).new #[.int .i64 16, .int .i64 0, .int .i64 0, .int .i64 0, .int .i64 16, .int .i64 0, .int .i64 0, .int .i64 0, .int .i64 16, .int .i64 0, .int .i64 0, .int .i64 0] 30
    clear hb2
    have c0 := (HT.box 0).c 0
    have c1 := (HT.box 0).c 1
    have c2 := (HT.box 0).c 2
    have c3 := (HT.box 0).c 3
    have c4 := (HT.box 0).c 4
    have c5 := (HT.box 0).c 5
    have c6 := (HT.box 0).c 6
    have c7 := (HT.box 0).c 7
    have c8 := (HT.box 0).c 8
    have c9 := (HT.box 0).c 9
    have c10 := (HT.box 0).c 10
    have c11 := (HT.box 0).c 11
    have d0 := (HT.box 1).c 0
    have d1 := (HT.box 1).c 1
    have d2 := (HT.box 1).c 2
    have d3 := (HT.box 1).c 3
    have d4 := (HT.box 1).c 4
    have d5 := (HT.box 1).c 5
    have d6 := (HT.box 1).c 6
    have d7 := (HT.box 1).c 7
    have d8 := (HT.box 1).c 8
    have d9 := (HT.box 1).c 9
    have d10 := (HT.box 1).c 10
    have d11 := (HT.box 1).c 11
    go_wp2_with fail
    refine (eqTransform_same _ _ _ _ _ _ _ _ _ _ _ _ _).mono ?_
    rintro e w3 ⟨rfl, hb3⟩
    have HT := (HT.later hb3)
    clear hb3
    clear c0 c1 c2 c3 c4 c5 c6 c7 c8 c9 c10 c11 d0 d1 d2 d3 d4 d5 d6 d7 d8 d9 d10 d11
    go_wp2_with fail
    go_ret
    exact ⟨rfl, HT.below⟩

set_option maxRecDepth 100000 in
theorem lifted (os : Os) (started : os.Started) (H : Type) (enc : TypeId × Value → H) :
    ReturnsInHanded {} Try.checked os 8 .any (Rows.fnExactUniformScaleSpec.pre6 enc Try.prog Try.f8 Rows.fnExactUniformScaleRow.domain false) (Rows.fnExactUniformScaleSpec.post enc Try.prog Try.f8 false true false false) := by
  refine returnsInHanded_of_change (C := Try.checked) own started (by kernel_rfl) Try.func8
    (ChangeSpec.witness6 (enc := enc) (C := Try.checked) false ⟨#[], #[.int .i64 0], []⟩ 8 (by kernel_rfl) (by kernel_rfl) (by kernel_rfl) (by kernel_rfl)) ?_
  intro W base args ds gs before hval0 hW hcnd _
  have hval : ∀ (j : Nat) t v, Try.f8.params[j]? = some t → args[j]? = some v → Value.okWide Try.prog W .any base t v := hval0
  have hW' := hW
  obtain ⟨p, q, hA0, hV, rfl, hfz, hnd⟩ := hW
  have hA : DataW.TrodAll enc Try.prog W 0 (fun _ => true) true Try.f8.params.toList args.toList ds p := hA0
  rw [Try.params8] at hA hval
  obtain ⟨v0, vs0, d0, ds0, p0, q0, hargs, rfl, rfl, h0, r1000⟩ := trodAll_cons hA
  obtain ⟨rfl, rfl, rfl⟩ := trodAll_nil r1000
  obtain rfl : args = #[v0] := by cases args; simp_all
  obtain ⟨rfl, rfl⟩ := trodVars_none hV
  obtain ⟨a0, rfl, rfl, rfl, w0⟩ := open_int Try.underlying3 (hval 0 3 v0 rfl rfl) h0
  clear hA0
  refine (walk W a0 w0).mono fun e W' ⟨he, bel⟩ => ?_
  subst he
  exact ⟨_, rfl, _, _, _, [], _, [], hW', trodAll_mk1 (shut_bool Try.underlying4 _), (trodAll_cons_mk (shut_int Try.underlying3 w0) trodAll_mk0), rfl, bel.frame _, fun h => by cases h⟩

theorem proved : Rows.FnExactUniformScaleSaid :=
  OpenClaim.holds_of_wide 8 Try.f8 rfl rfl rfl rfl rfl rfl rfl ⟨rfl, rfl, rfl, rfl, rfl⟩ rfl rfl rfl rfl rfl (by kernel_rfl) Try.func8 (by kernel_rfl)
    (of_decide_eq_true (by kernel_rfl)) (by unfold Func.isWrapper; first | (rw [if_pos (by decide +kernel)]; kernel_rfl) | (rw [if_neg (by decide +kernel)]; exact ⟨rfl, rfl⟩))
    (fun os started H enc _ => lifted os started H enc)
#print axioms proved
end Go.Proofs.Ytjneionmliknhaa.fnExactUniformScale
