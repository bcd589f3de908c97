/-
  Proved: the law FnExactScale returns true for every input and its arguments read behind the call as they read before. Conditions: none of our own; those of the given row alone.
-/
import Derived.Test.YtjdafiijldfdaaaRows
import Derived.WalkKit
import Derived.ProofKit
import Derived.OpenShut
import Derived.ShutString
import Derived.SliceStrings
import Derived.ChangeOld
import Derived.Below
import Derived.Test.YtjdafiijldfdaaaFlat
import Derived.Test.YtjdafiijldfdaaaVbox
import Derived.Test.YtjdafiijldfdaaaVec
import Derived.Test.YtjdafiijldfdaaaVScale
import Derived.Test.YtjdafiijldfdaaaVlaw
import Derived.Deep.RegionHeld3
import Derived.Deep.DeepCutAuto
import Derived.Handy
import Derived.Test.YtjdafiijldfdaaaMem
namespace Go.Proofs.Ytjdafiijldfdaaa.fnExactScale
open Go.ChangeShapes Go.WideShapes Go.ChangeAt Go.RowKit
open Go.ChangeMaps (open_string shut_string)
set_option linter.unusedVariables false

theorem own : ownKnob Try.prog.godebug = none := by kernel_rfl
theorem laidOut : laidOutB Try.prog = true := by kernel_rfl
theorem flat3 : FlatI Try.prog 3 (Try.prog.cellsOf 3) := by rw [show Try.prog.cellsOf 3 = 1 by kernel_rfl]; exact flat1 Try.underlying3
theorem cells23 : Try.prog.cellsOf 23 = 3 := by kernel_rfl
theorem flat23_ : FlatI Try.prog 23 3 := flatS Try.underlying23 cells23 (by exact ⟨rfl, flat3, ⟨rfl, flat3, ⟨rfl, flat3, by unfold FlatFs; kernel_rfl⟩⟩⟩)
set_option maxHeartbeats 4000000 in
theorem walk (w : World) (a0_0 a0_1 a0_2 : Int) (w0_0 : (Lit.int .i64 a0_0).wf = true) (w0_1 : (Lit.int .i64 a0_1).wf = true) (w0_2 : (Lit.int .i64 a0_2).wf = true) (a1 : Int) (w1 : (Lit.int .i64 a1).wf = true) (a2 : Int) (w2 : (Lit.int .i64 a2).wf = true) :
    Calls Try.prog 8 #[.agg #[.int .i64 a0_0, .int .i64 a0_1, .int .i64 a0_2], .int .i64 a1, .int .i64 a2] w fun e w' => e = .returned (.bool true) ∧ Below w.heap.size w w' := by
  have HT := One.start w a0_0 a0_1 a0_2 23
  go_enter Try.func8, Try.ntmps8
  go_wp2_with fail
  refine (toVec_any _ _ _ _).mono ?_
  rintro e w1 ⟨rfl, hb1⟩
  have HT := HT.later hb1
  clear hb1
  go_wp2_with fail
  refine (sScale_any _ _ _ _ _ _).mono ?_
  rintro e w2 ⟨rfl, hb2⟩
  have HT := (HT.later hb2).alloc (.cells #[.int .i64 (scaleP (cc a0_0) a1 a2), .int .i64 (scaleP (cc a0_1) a1 a2), .int .i64 (scaleP (cc a0_2) a1 a2)] 25)
  have HV := Vbox.new w2 (scaleP (cc a0_0) a1 a2) (scaleP (cc a0_1) a1 a2) (scaleP (cc a0_2) a1 a2) 25
  clear hb2
  obtain ⟨c0, c1, c2⟩ := HT.cells
  go_wp2_with fail
  refine (toVec_any _ _ _ _).mono ?_
  rintro e w3 ⟨rfl, hb3⟩
  have HT := HT.later hb3
  have HV := HV.later hb3
  clear hb3 c0 c1 c2
  go_wp2_with fail
  refine (scale_any _ _ _ _ _ _).mono ?_
  rintro e w4 ⟨rfl, hb4⟩
  have HT := (HT.later hb4).alloc (.cells #[.int .i64 (scaleP (cc a0_0) a1 a2), .int .i64 (scaleP (cc a0_1) a1 a2), .int .i64 (scaleP (cc a0_2) a1 a2)] 25)
  have HV := (HV.later hb4).alloc (.cells #[.int .i64 (scaleP (cc a0_0) a1 a2), .int .i64 (scaleP (cc a0_1) a1 a2), .int .i64 (scaleP (cc a0_2) a1 a2)] 25)
  have HU := Vbox.new w4 (scaleP (cc a0_0) a1 a2) (scaleP (cc a0_1) a1 a2) (scaleP (cc a0_2) a1 a2) 25
  obtain ⟨c0, c1, c2, _, _, _⟩ := id HU
  obtain ⟨d0, d1, d2, _, _, _⟩ := id HV
  clear hb4
  go_wp2_with fail
  refine (eqVec_same _ _ _ _).mono ?_
  rintro e w5 ⟨rfl, hb5⟩
  have HT := HT.later hb5
  clear hb5 c0 c1 c2 d0 d1 d2 HU HV
  go_wp2_with fail
  go_ret
  exact ⟨rfl, HT.2.1⟩

set_option maxRecDepth 100000 in
theorem lifted (os : Os) (started : os.Started) (H : Type) (enc : TypeId × Value → H) :
    ReturnsInHanded {} Try.checked os 8 .any (Rows.fnExactScaleSpec.pre6 enc Try.prog Try.f8 Rows.fnExactScaleRow.domain false) (Rows.fnExactScaleSpec.post enc Try.prog Try.f8 false true false false) := by
  refine returnsInHanded_of_change (C := Try.checked) own started (by kernel_rfl) Try.func8
    (ChangeSpec.witness6 (enc := enc) (C := Try.checked) false ⟨#[], #[.agg #[.int .i64 0, .int .i64 0, .int .i64 0], .int .i64 0, .int .i64 0], []⟩ 8 (by kernel_rfl) (by kernel_rfl) (by kernel_rfl) (by kernel_rfl)) ?_
  intro W base args ds gs before hval0 hW hcnd _
  have hval : ∀ (j : Nat) t v, Try.f8.params[j]? = some t → args[j]? = some v → Value.okWide Try.prog W .any base t v := hval0
  have hW' := hW
  obtain ⟨p, q, hA0, hV, rfl, hfz, hnd⟩ := hW
  have hA : DataW.TrodAll enc Try.prog W 0 (fun _ => true) true Try.f8.params.toList args.toList ds p := hA0
  rw [Try.params8] at hA hval
  obtain ⟨v0, vs0, d0, ds0, p0, q0, hargs, rfl, rfl, h0, r1000⟩ := trodAll_cons hA
  obtain ⟨v1, vs1, d1, ds1, p1, q1, rfl, rfl, rfl, h1, r1001⟩ := trodAll_cons r1000
  obtain ⟨v2, vs2, d2, ds2, p2, q2, rfl, rfl, rfl, h2, r1002⟩ := trodAll_cons r1001
  obtain ⟨rfl, rfl, rfl⟩ := trodAll_nil r1002
  obtain rfl : args = #[v0, v1, v2] := by cases args; simp_all
  obtain ⟨rfl, rfl⟩ := trodVars_none hV
  have k0 := h0
  have lt0 : ∀ x ∈ p0, x.block < W.heap.size := by obtain ⟨m, hm⟩ := k0; exact DataW.trod_lt m _ _ _ hm
  obtain ⟨zs0, hzs0, rfl, wzs0⟩ := open_flat Try.underlying23 flat23_ (hval 0 23 v0 rfl rfl) h0
  obtain ⟨a0_0, a0_1, a0_2, rfl⟩ := list3 hzs0
  obtain ⟨a1, rfl, rfl, rfl, w1⟩ := open_int Try.underlying3 (hval 1 3 v1 rfl rfl) h1
  obtain ⟨a2, rfl, rfl, rfl, w2⟩ := open_int Try.underlying3 (hval 2 3 v2 rfl rfl) h2
  clear hA0
  refine (walk W a0_0 a0_1 a0_2 (wzs0 _ (by simp)) (wzs0 _ (by simp)) (wzs0 _ (by simp)) a1 w1 a2 w2).mono fun e W' ⟨he, bel⟩ => ?_
  subst he
  exact ⟨_, rfl, _, _, _, [], _, [], hW', trodAll_mk1 (shut_bool Try.underlying4 _), (trodAll_cons_mk (Below.trod laidOut (by kernel_rfl) (of_decide_eq_true (by kernel_rfl)) k0 bel lt0) (trodAll_cons_mk (shut_int Try.underlying3 w1) (trodAll_cons_mk (shut_int Try.underlying3 w2) trodAll_mk0))), rfl, bel.frame _, fun h => by cases h⟩

theorem proved : Rows.FnExactScaleSaid :=
  OpenClaim.holds_of_wide 8 Try.f8 rfl rfl rfl rfl rfl rfl rfl ⟨rfl, rfl, rfl, rfl, rfl⟩ rfl rfl rfl rfl rfl (by kernel_rfl) Try.func8 (by kernel_rfl)
    (of_decide_eq_true (by kernel_rfl)) (by unfold Func.isWrapper; first | (rw [if_pos (by decide +kernel)]; kernel_rfl) | (rw [if_neg (by decide +kernel)]; exact ⟨rfl, rfl⟩))
    (fun os started H enc _ => lifted os started H enc)
#print axioms proved
end Go.Proofs.Ytjdafiijldfdaaa.fnExactScale
