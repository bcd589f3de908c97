/-
  Proved: the law FnExactViewBounds returns true for every input and its arguments read behind the call as they read before. Conditions: none of our own; those of the given row alone.
-/
import Derived.Test.YtlaghpcdaolofaaRows
import Derived.WalkKit
import Derived.ProofKit
import Derived.OpenShut
import Derived.ShutString
import Derived.SliceStrings
import Derived.ChangeOld
import Derived.Below
import Derived.Test.YtlaghpcdaolofaaKV
import Derived.Test.YtlaghpcdaolofaaInts
import Derived.Test.YtlaghpcdaolofaaVbox
import Derived.Test.YtlaghpcdaolofaaVec
import Derived.Test.YtlaghpcdaolofaaHeld
import Derived.Test.YtlaghpcdaolofaaCam
import Derived.Test.YtlaghpcdaolofaaBox
import Derived.Test.YtlaghpcdaolofaaCVb
import Derived.Deep.RegionHeld3
import Derived.Deep.DeepCutAuto
import Derived.Handy
import Derived.Test.YtlaghpcdaolofaaFlat
import Derived.Test.YtlaghpcdaolofaaMem
namespace Go.Proofs.Ytlaghpcdaolofaa.fnExactViewBounds
open Go.ChangeShapes Go.WideShapes Go.ChangeAt Go.RowKit
open Go.ChangeMaps (open_string shut_string)
set_option linter.unusedVariables false

theorem own : ownKnob Try.prog.godebug = none := by kernel_rfl
theorem laidOut : laidOutB Try.prog = true := by kernel_rfl
theorem flatK23_ : FlatK Try.prog 23 [false, false, false, false, true, false, false] := flatKS (ks := [[false], [false], [false], [false], [true], [false], [false]]) Try.underlying23 (n := 7) (by kernel_rfl) (by exact ⟨[false], _, rfl, by kernel_rfl, by kernel_rfl, flatK_int Try.underlying3, ⟨[false], _, rfl, by kernel_rfl, by kernel_rfl, flatK_int Try.underlying3, ⟨[false], _, rfl, by kernel_rfl, by kernel_rfl, flatK_int Try.underlying3, ⟨[false], _, rfl, by kernel_rfl, by kernel_rfl, flatK_int Try.underlying3, ⟨[true], _, rfl, by kernel_rfl, by kernel_rfl, flatK_bool Try.underlying4, ⟨[false], _, rfl, by kernel_rfl, by kernel_rfl, flatK_int Try.underlying3, ⟨[false], _, rfl, by kernel_rfl, by kernel_rfl, flatK_int Try.underlying3, ⟨rfl, by kernel_rfl⟩⟩⟩⟩⟩⟩⟩⟩)
set_option maxHeartbeats 4000000 in
theorem walk (w : World) (a0_0 : Int) (w0_0 : (Lit.int .i64 a0_0).wf = true) (a0_1 : Int) (w0_1 : (Lit.int .i64 a0_1).wf = true) (a0_2 : Int) (w0_2 : (Lit.int .i64 a0_2).wf = true) (a0_3 : Int) (w0_3 : (Lit.int .i64 a0_3).wf = true) (a0_4 : Bool) (a0_5 : Int) (w0_5 : (Lit.int .i64 a0_5).wf = true) (a0_6 : Int) (w0_6 : (Lit.int .i64 a0_6).wf = true) :
    Calls Try.prog 6 #[.agg #[.int .i64 a0_0, .int .i64 a0_1, .int .i64 a0_2, .int .i64 a0_3, .bool a0_4, .int .i64 a0_5, .int .i64 a0_6]] w fun e w' => e = .returned (.bool true) ∧ Below w.heap.size w w' := by
  have HT : Held w (w.alloc (.cells #[.int .i64 a0_0, .int .i64 a0_1, .int .i64 a0_2, .int .i64 a0_3, .bool a0_4, .int .i64 a0_5, .int .i64 a0_6] 23)) [(w.heap.size, [.int .i64 a0_0, .int .i64 a0_1, .int .i64 a0_2, .int .i64 a0_3, .bool a0_4, .int .i64 a0_5, .int .i64 a0_6])] := by
    have h := (Held.nil w).new #[.int .i64 a0_0, .int .i64 a0_1, .int .i64 a0_2, .int .i64 a0_3, .bool a0_4, .int .i64 a0_5, .int .i64 a0_6] 23
    simpa only [World.size_alloc] using h
  go_enter Try.func6, Try.ntmps6
  go_wp2_with fail
  refine (toCamera_any _ _ _ _ _ _ _ _).mono ?_
  rintro e w1 ⟨rfl, hb1⟩
  have HT := HT.later hb1
  clear hb1
  go_wp2_with fail
  refine (sViewBounds_any _ _ _ _ _ _ _ _).mono ?_
  rintro e w2 ⟨rfl, hb2⟩
  obtain ⟨k, hk⟩ : ∃ k, k = okC a0_0 a0_1 a0_2 a0_3 a0_5 a0_6 := ⟨_, rfl⟩
  rw [← hk]
  obtain ⟨p0, hp0⟩ : ∃ p, p = vbV k a0_3 := ⟨_, rfl⟩
  obtain ⟨p1, hp1⟩ : ∃ p, p = vbV k (a0_0 * 16 - 1) := ⟨_, rfl⟩
  obtain ⟨p2, hp2⟩ : ∃ p, p = vbV k (a0_1 * 16 - 1) := ⟨_, rfl⟩
  obtain ⟨p3, hp3⟩ : ∃ p, p = vbV k 1000000 := ⟨_, rfl⟩
  rw [← hp0, ← hp1, ← hp2, ← hp3]
  have HK := Lib.hid hk
  have HPQ := Lib.hid (And.intro hp0 (And.intro hp1 (And.intro hp2 hp3)))
  have HT := (HT.later hb2).new #[.int .i64 0, .int .i64 0, .int .i64 p0, .int .i64 p1, .int .i64 p2, .int .i64 p3] 40
  clear hk hp0 hp1 hp2 hp3 hb2
  have c0 := (HT.box 1).c 0
  have c1 := (HT.box 1).c 1
  have c2 := (HT.box 1).c 2
  have c3 := (HT.box 1).c 3
  have c4 := (HT.box 1).c 4
  have c5 := (HT.box 1).c 5
  have c6 := (HT.box 1).c 6
  go_wp2_with fail
  refine (toCamera_any _ _ _ _ _ _ _ _).mono ?_
  rintro e w3 ⟨rfl, hb3⟩
  have HT := HT.later hb3
  clear hb3 c0 c1 c2 c3 c4 c5 c6
  go_wp2_with fail
  refine (viewBounds_any _ _ _ _ _ _ _ _).mono ?_
  rintro e w4 ⟨rfl, hb4⟩
  rw [← HK.out, ← HPQ.out.1, ← HPQ.out.2.1, ← HPQ.out.2.2.1, ← HPQ.out.2.2.2]
  clear HK HPQ
  have HT := (HT.later hb4).new #[.int .i64 0, .int .i64 0, .int .i64 p0, .int .i64 p1, .int .i64 p2, .int .i64 p3] 40
  clear hb4
  have c0 := (HT.box 1).c 0
  have c1 := (HT.box 1).c 1
  have c2 := (HT.box 1).c 2
  have c3 := (HT.box 1).c 3
  have c4 := (HT.box 1).c 4
  have c5 := (HT.box 1).c 5
  have d0 := (HT.box 0).c 0
  have d1 := (HT.box 0).c 1
  have d2 := (HT.box 0).c 2
  have d3 := (HT.box 0).c 3
  have d4 := (HT.box 0).c 4
  have d5 := (HT.box 0).c 5
  go_wp2_with fail
  refine (eqBox_same _ _ _ _ _ _ _).mono ?_
  rintro e w5 ⟨rfl, hb5⟩
  have HT := HT.later hb5
  clear hb5 c0 d0 c1 d1 c2 d2 c3 d3 c4 d4 c5 d5
  go_wp2_with fail
  go_ret
  exact ⟨rfl, HT.below⟩

set_option maxRecDepth 100000 in
theorem lifted (os : Os) (started : os.Started) (H : Type) (enc : TypeId × Value → H) :
    ReturnsInHanded {} Try.checked os 6 .any (Rows.fnExactViewBoundsSpec.pre6 enc Try.prog Try.f6 Rows.fnExactViewBoundsRow.domain false) (Rows.fnExactViewBoundsSpec.post enc Try.prog Try.f6 false true false false) := by
  refine returnsInHanded_of_change (C := Try.checked) own started (by kernel_rfl) Try.func6
    (ChangeSpec.witness6 (enc := enc) (C := Try.checked) false ⟨#[], #[.agg #[.int .i64 0, .int .i64 0, .int .i64 0, .int .i64 0, .bool false, .int .i64 0, .int .i64 0]], []⟩ 8 (by kernel_rfl) (by kernel_rfl) (by kernel_rfl) (by kernel_rfl)) ?_
  intro W base args ds gs before hval0 hW hcnd _
  have hval : ∀ (j : Nat) t v, Try.f6.params[j]? = some t → args[j]? = some v → Value.okWide Try.prog W .any base t v := hval0
  have hW' := hW
  obtain ⟨p, q, hA0, hV, rfl, hfz, hnd⟩ := hW
  have hA : DataW.TrodAll enc Try.prog W 0 (fun _ => true) true Try.f6.params.toList args.toList ds p := hA0
  rw [Try.params6] at hA hval
  obtain ⟨v0, vs0, d0, ds0, p0, q0, hargs, rfl, rfl, h0, r1000⟩ := trodAll_cons hA
  obtain ⟨rfl, rfl, rfl⟩ := trodAll_nil r1000
  obtain rfl : args = #[v0] := by cases args; simp_all
  obtain ⟨rfl, rfl⟩ := trodVars_none hV
  have k0 := h0
  have lt0 : ∀ x ∈ p0, x.block < W.heap.size := by obtain ⟨m, hm⟩ := k0; exact DataW.trod_lt m _ _ _ hm
  have hv0 := hval 0 23 v0 rfl rfl
  obtain ⟨vs0, rfl, kk0⟩ := open_flatK (P := Try.prog) (t := 23) Try.underlying23 flatK23_ hv0 h0
  obtain ⟨a0_0, r0, rfl, w0_0, kk0⟩ := kk0
  obtain ⟨a0_1, r0, rfl, w0_1, kk0⟩ := kk0
  obtain ⟨a0_2, r0, rfl, w0_2, kk0⟩ := kk0
  obtain ⟨a0_3, r0, rfl, w0_3, kk0⟩ := kk0
  obtain ⟨a0_4, r0, rfl, kk0⟩ := kk0
  obtain ⟨a0_5, r0, rfl, w0_5, kk0⟩ := kk0
  obtain ⟨a0_6, r0, rfl, w0_6, kk0⟩ := kk0
  obtain rfl := kk0
  clear hA0
  refine (walk W a0_0 w0_0 a0_1 w0_1 a0_2 w0_2 a0_3 w0_3 a0_4 a0_5 w0_5 a0_6 w0_6).mono fun e W' ⟨he, bel⟩ => ?_
  subst he
  exact ⟨_, rfl, _, _, _, [], _, [], hW', trodAll_mk1 (shut_bool Try.underlying4 _), (trodAll_cons_mk (Below.trod laidOut (by kernel_rfl) (of_decide_eq_true (by kernel_rfl)) k0 bel lt0) trodAll_mk0), rfl, bel.frame _, fun h => by cases h⟩

theorem proved : Rows.FnExactViewBoundsSaid :=
  OpenClaim.holds_of_wide 6 Try.f6 rfl rfl rfl rfl rfl rfl rfl ⟨rfl, rfl, rfl, rfl, rfl⟩ rfl rfl rfl rfl rfl (by kernel_rfl) Try.func6 (by kernel_rfl)
    (of_decide_eq_true (by kernel_rfl)) (by unfold Func.isWrapper; first | (rw [if_pos (by decide +kernel)]; kernel_rfl) | (rw [if_neg (by decide +kernel)]; exact ⟨rfl, rfl⟩))
    (fun os started H enc _ => lifted os started H enc)
#print axioms proved
end Go.Proofs.Ytlaghpcdaolofaa.fnExactViewBounds
