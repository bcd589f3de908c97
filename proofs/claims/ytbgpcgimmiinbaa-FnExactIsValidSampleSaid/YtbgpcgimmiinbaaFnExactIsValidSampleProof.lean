/-
  Proved: the law FnExactIsValidSample returns true for every input and its arguments read behind the call as they read before. Conditions: none of our own; those of the given row alone.
-/
import Derived.Test.YtbgpcgimmiinbaaRows
import Derived.WalkKit
import Derived.ProofKit
import Derived.OpenShut
import Derived.ShutString
import Derived.SliceStrings
import Derived.ChangeOld
import Derived.Below
import Derived.Test.YtbgpcgimmiinbaaKV
import Derived.Test.YtbgpcgimmiinbaaInts
import Derived.Test.YtbgpcgimmiinbaaVbox
import Derived.Test.YtbgpcgimmiinbaaVec
import Derived.Test.YtbgpcgimmiinbaaHeld
import Derived.Test.YtbgpcgimmiinbaaMem
import Derived.Test.YtbgpcgimmiinbaaFlat
import Derived.Test.YtbgpcgimmiinbaaRowC
import Derived.Test.YtbgpcgimmiinbaaCam
import Derived.Test.YtbgpcgimmiinbaaCPix
import Derived.Test.YtbgpcgimmiinbaaSmp
import Derived.Test.YtbgpcgimmiinbaaSv
import Derived.Deep.RegionHeld3
import Derived.Deep.DeepCutAuto
import Derived.Handy
namespace Go.Proofs.Ytbgpcgimmiinbaa.fnExactIsValidSample
open Go.ChangeShapes Go.WideShapes Go.ChangeAt Go.RowKit
open Go.ChangeMaps (open_string shut_string)
set_option linter.unusedVariables false

theorem own : ownKnob Try.prog.godebug = none := by kernel_rfl
theorem laidOut : laidOutB Try.prog = true := by kernel_rfl
theorem flatK52_ : FlatK Try.prog 52 [false, false, false, false, true, false, false] := flatKS (ks := [[false], [false], [false], [false], [true], [false], [false]]) Try.underlying52 (n := 7) (by kernel_rfl) (by exact ⟨[false], _, rfl, by kernel_rfl, by kernel_rfl, flatK_int Try.underlying3, ⟨[false], _, rfl, by kernel_rfl, by kernel_rfl, flatK_int Try.underlying3, ⟨[false], _, rfl, by kernel_rfl, by kernel_rfl, flatK_int Try.underlying3, ⟨[false], _, rfl, by kernel_rfl, by kernel_rfl, flatK_int Try.underlying3, ⟨[true], _, rfl, by kernel_rfl, by kernel_rfl, flatK_bool Try.underlying4, ⟨[false], _, rfl, by kernel_rfl, by kernel_rfl, flatK_int Try.underlying3, ⟨[false], _, rfl, by kernel_rfl, by kernel_rfl, flatK_int Try.underlying3, ⟨rfl, by kernel_rfl⟩⟩⟩⟩⟩⟩⟩⟩)
theorem flat3 : FlatI Try.prog 3 (Try.prog.cellsOf 3) := by rw [show Try.prog.cellsOf 3 = 1 by kernel_rfl]; exact flat1 Try.underlying3
theorem cells57 : Try.prog.cellsOf 57 = 5 := by kernel_rfl
theorem flat57_ : FlatI Try.prog 57 5 := flatS Try.underlying57 cells57 (by exact ⟨by kernel_rfl, flat3, ⟨by kernel_rfl, flat3, ⟨by kernel_rfl, flat3, ⟨by kernel_rfl, flat3, ⟨by kernel_rfl, flat3, by unfold FlatFs; kernel_rfl⟩⟩⟩⟩⟩)
set_option maxHeartbeats 4000000 in
theorem walk (w : World) (a0_0 : Int) (w0_0 : (Lit.int .i64 a0_0).wf = true) (a0_1 : Int) (w0_1 : (Lit.int .i64 a0_1).wf = true) (a0_2 : Int) (w0_2 : (Lit.int .i64 a0_2).wf = true) (a0_3 : Int) (w0_3 : (Lit.int .i64 a0_3).wf = true) (a0_4 : Bool) (a0_5 : Int) (w0_5 : (Lit.int .i64 a0_5).wf = true) (a0_6 : Int) (w0_6 : (Lit.int .i64 a0_6).wf = true) (a1_0 a1_1 a1_2 a1_3 a1_4 : Int) (w1_0 : (Lit.int .i64 a1_0).wf = true) (w1_1 : (Lit.int .i64 a1_1).wf = true) (w1_2 : (Lit.int .i64 a1_2).wf = true) (w1_3 : (Lit.int .i64 a1_3).wf = true) (w1_4 : (Lit.int .i64 a1_4).wf = true) :
    Calls Try.prog 7 #[.agg #[.int .i64 a0_0, .int .i64 a0_1, .int .i64 a0_2, .int .i64 a0_3, .bool a0_4, .int .i64 a0_5, .int .i64 a0_6], .agg #[.int .i64 a1_0, .int .i64 a1_1, .int .i64 a1_2, .int .i64 a1_3, .int .i64 a1_4]] w fun e w' => e = .returned (.bool true) ∧ Below w.heap.size w w' := by
  have HT : Held w ((w.alloc (.cells #[.int .i64 a0_0, .int .i64 a0_1, .int .i64 a0_2, .int .i64 a0_3, .bool a0_4, .int .i64 a0_5, .int .i64 a0_6] 52)).alloc (.cells #[.int .i64 a1_0, .int .i64 a1_1, .int .i64 a1_2, .int .i64 a1_3, .int .i64 a1_4] 57)) [(w.heap.size + 1, [.int .i64 a1_0, .int .i64 a1_1, .int .i64 a1_2, .int .i64 a1_3, .int .i64 a1_4]), (w.heap.size, [.int .i64 a0_0, .int .i64 a0_1, .int .i64 a0_2, .int .i64 a0_3, .bool a0_4, .int .i64 a0_5, .int .i64 a0_6])] := by
    have h := ((Held.nil w).new #[.int .i64 a0_0, .int .i64 a0_1, .int .i64 a0_2, .int .i64 a0_3, .bool a0_4, .int .i64 a0_5, .int .i64 a0_6] 52).new #[.int .i64 a1_0, .int .i64 a1_1, .int .i64 a1_2, .int .i64 a1_3, .int .i64 a1_4] 57
    simpa only [World.size_alloc] using h
  have bx := bounds_i64 w1_0
  have hy := bounds_i64 w1_1
  obtain ⟨k, hk⟩ : ∃ k, k = vsm a0_0 a0_1 a0_2 a0_3 a0_5 a0_6 a1_0 a1_1 a1_2 a1_3 a1_4 := ⟨_, rfl⟩
  have HSA : Hid (∀ w : World, Calls Try.prog 28 #[cam a0_0 a0_1 a0_2 a0_3 a0_4 a0_5 a0_6, smp a1_0 a1_1 a1_2 a1_3 a1_4] w (BoolS k w)) := Lib.hid (fun w => by rw [hk]; exact sIsValidSample_any a0_0 a0_1 a0_2 a0_3 a0_4 a0_5 a0_6 a1_0 a1_1 a1_2 a1_3 a1_4 bx.1 bx.2 hy.1 hy.2 w)
  have HIA : Hid (∀ w : World, Calls Try.prog 13 #[cam a0_0 a0_1 a0_2 a0_3 a0_4 a0_5 a0_6, smp a1_0 a1_1 a1_2 a1_3 a1_4] w (BoolS k w)) := Lib.hid (fun w => by rw [hk]; exact isValidSample_any a0_0 a0_1 a0_2 a0_3 a0_4 a0_5 a0_6 a1_0 a1_1 a1_2 a1_3 a1_4 bx.1 bx.2 hy.1 hy.2 w)
  clear hk
  have HC : ∀ W, Held w W [(w.heap.size + 1, [.int .i64 a1_0, .int .i64 a1_1, .int .i64 a1_2, .int .i64 a1_3, .int .i64 a1_4]), (w.heap.size, [.int .i64 a0_0, .int .i64 a0_1, .int .i64 a0_2, .int .i64 a0_3, .bool a0_4, .int .i64 a0_5, .int .i64 a0_6])] → (W.cell? ⟨w.heap.size, 0, none⟩ = some (.int .i64 a0_0) ∧ W.cell? ⟨w.heap.size, 1, none⟩ = some (.int .i64 a0_1) ∧ W.cell? ⟨w.heap.size, 2, none⟩ = some (.int .i64 a0_2) ∧ W.cell? ⟨w.heap.size, 3, none⟩ = some (.int .i64 a0_3) ∧ W.cell? ⟨w.heap.size, 4, none⟩ = some (.bool a0_4) ∧ W.cell? ⟨w.heap.size, 5, none⟩ = some (.int .i64 a0_5) ∧ W.cell? ⟨w.heap.size, 6, none⟩ = some (.int .i64 a0_6) ∧ W.cell? ⟨w.heap.size + 1, 0, none⟩ = some (.int .i64 a1_0) ∧ W.cell? ⟨w.heap.size + 1, 1, none⟩ = some (.int .i64 a1_1) ∧ W.cell? ⟨w.heap.size + 1, 2, none⟩ = some (.int .i64 a1_2) ∧ W.cell? ⟨w.heap.size + 1, 3, none⟩ = some (.int .i64 a1_3) ∧ W.cell? ⟨w.heap.size + 1, 4, none⟩ = some (.int .i64 a1_4)) := fun W h => ⟨(h.box 1).c 0, (h.box 1).c 1, (h.box 1).c 2, (h.box 1).c 3, (h.box 1).c 4, (h.box 1).c 5, (h.box 1).c 6, (h.box 0).c 0, (h.box 0).c 1, (h.box 0).c 2, (h.box 0).c 3, (h.box 0).c 4⟩
  go_enter Try.func7, Try.ntmps7
  go_upto_region 1 with fail
  go_region_held3 (fun w' => w'.cell? ⟨w.heap.size, 0, none⟩ = some (.int .i64 a0_0) ∧ w'.cell? ⟨w.heap.size, 1, none⟩ = some (.int .i64 a0_1) ∧ w'.cell? ⟨w.heap.size, 2, none⟩ = some (.int .i64 a0_2) ∧ w'.cell? ⟨w.heap.size, 3, none⟩ = some (.int .i64 a0_3) ∧ w'.cell? ⟨w.heap.size, 4, none⟩ = some (.bool a0_4) ∧ w'.cell? ⟨w.heap.size, 5, none⟩ = some (.int .i64 a0_5) ∧ w'.cell? ⟨w.heap.size, 6, none⟩ = some (.int .i64 a0_6) ∧ w'.cell? ⟨w.heap.size + 1, 0, none⟩ = some (.int .i64 a1_0) ∧ w'.cell? ⟨w.heap.size + 1, 1, none⟩ = some (.int .i64 a1_1) ∧ w'.cell? ⟨w.heap.size + 1, 2, none⟩ = some (.int .i64 a1_2) ∧ w'.cell? ⟨w.heap.size + 1, 3, none⟩ = some (.int .i64 a1_3) ∧ w'.cell? ⟨w.heap.size + 1, 4, none⟩ = some (.int .i64 a1_4))
    (first | (with_reducible exact HC _ HT) | (with_reducible exact HC _ HT.drew))
    (first | (go_at_call 24; (with_reducible refine (toCamera_any _ _ _ _ _ _ _ _).mono ?_); rintro e wb ⟨rfl, hb1⟩; (first | (have HT := HT.later hb1) | (have HT := HT.drew.later hb1))) | (go_at_call 29; (with_reducible refine (toSample_any _ _ _ _ _ _).mono ?_); rintro e wb ⟨rfl, hb1⟩; (first | (have HT := HT.later hb1) | (have HT := HT.drew.later hb1))) | (go_at_call 28; (with_reducible refine (HSA.out _).mono ?_); rintro e w4 ⟨rfl, hb4⟩; have HT := HT.later hb4))
  go_upto_region 2 with fail
  go_region_held3 (fun w' => w'.cell? ⟨w.heap.size, 0, none⟩ = some (.int .i64 a0_0) ∧ w'.cell? ⟨w.heap.size, 1, none⟩ = some (.int .i64 a0_1) ∧ w'.cell? ⟨w.heap.size, 2, none⟩ = some (.int .i64 a0_2) ∧ w'.cell? ⟨w.heap.size, 3, none⟩ = some (.int .i64 a0_3) ∧ w'.cell? ⟨w.heap.size, 4, none⟩ = some (.bool a0_4) ∧ w'.cell? ⟨w.heap.size, 5, none⟩ = some (.int .i64 a0_5) ∧ w'.cell? ⟨w.heap.size, 6, none⟩ = some (.int .i64 a0_6) ∧ w'.cell? ⟨w.heap.size + 1, 0, none⟩ = some (.int .i64 a1_0) ∧ w'.cell? ⟨w.heap.size + 1, 1, none⟩ = some (.int .i64 a1_1) ∧ w'.cell? ⟨w.heap.size + 1, 2, none⟩ = some (.int .i64 a1_2) ∧ w'.cell? ⟨w.heap.size + 1, 3, none⟩ = some (.int .i64 a1_3) ∧ w'.cell? ⟨w.heap.size + 1, 4, none⟩ = some (.int .i64 a1_4))
    (first | (with_reducible exact HC _ HT) | (with_reducible exact HC _ HT.drew))
    (first | (go_at_call 24; (with_reducible refine (toCamera_any _ _ _ _ _ _ _ _).mono ?_); rintro e wb ⟨rfl, hb1⟩; (first | (have HT := HT.later hb1) | (have HT := HT.drew.later hb1))) | (go_at_call 29; (with_reducible refine (toSample_any _ _ _ _ _ _).mono ?_); rintro e wb ⟨rfl, hb1⟩; (first | (have HT := HT.later hb1) | (have HT := HT.drew.later hb1))) | (go_at_call 13; (with_reducible refine (HIA.out _).mono ?_); rintro e w4 ⟨rfl, hb4⟩; have HT := HT.later hb4))
  clear HC HSA HIA
  cases k
  all_goals
    go_wp2_with fail
    go_ret
    exact ⟨rfl, HT.below⟩

set_option maxRecDepth 100000 in
theorem lifted (os : Os) (started : os.Started) (H : Type) (enc : TypeId × Value → H) :
    ReturnsInHanded {} Try.checked os 7 .any (Rows.fnExactIsValidSampleSpec.pre6 enc Try.prog Try.f7 Rows.fnExactIsValidSampleRow.domain false) (Rows.fnExactIsValidSampleSpec.post enc Try.prog Try.f7 false true false false) := by
  refine returnsInHanded_of_change (C := Try.checked) own started (by kernel_rfl) Try.func7
    (ChangeSpec.witness6 (enc := enc) (C := Try.checked) false ⟨#[], #[.agg #[.int .i64 0, .int .i64 0, .int .i64 0, .int .i64 0, .bool false, .int .i64 0, .int .i64 0], .agg #[.int .i64 0, .int .i64 0, .int .i64 0, .int .i64 0, .int .i64 0]], []⟩ 8 (by kernel_rfl) (by kernel_rfl) (by kernel_rfl) (by kernel_rfl)) ?_
  intro W base args ds gs before hval0 hW hcnd _
  have hval : ∀ (j : Nat) t v, Try.f7.params[j]? = some t → args[j]? = some v → Value.okWide Try.prog W .any base t v := hval0
  have hW' := hW
  obtain ⟨p, q, hA0, hV, rfl, hfz, hnd⟩ := hW
  have hA : DataW.TrodAll enc Try.prog W 0 (fun _ => true) true Try.f7.params.toList args.toList ds p := hA0
  rw [Try.params7] at hA hval
  obtain ⟨v0, vs0, d0, ds0, p0, q0, hargs, rfl, rfl, h0, r1000⟩ := trodAll_cons hA
  obtain ⟨v1, vs1, d1, ds1, p1, q1, rfl, rfl, rfl, h1, r1001⟩ := trodAll_cons r1000
  obtain ⟨rfl, rfl, rfl⟩ := trodAll_nil r1001
  obtain rfl : args = #[v0, v1] := by cases args; simp_all
  obtain ⟨rfl, rfl⟩ := trodVars_none hV
  have k0 := h0
  have lt0 : ∀ x ∈ p0, x.block < W.heap.size := by obtain ⟨m, hm⟩ := k0; exact DataW.trod_lt m _ _ _ hm
  have hv0 := hval 0 52 v0 rfl rfl
  obtain ⟨vs0, rfl, kk0⟩ := open_flatK (P := Try.prog) (t := 52) Try.underlying52 flatK52_ hv0 h0
  obtain ⟨a0_0, r0, rfl, w0_0, kk0⟩ := kk0
  obtain ⟨a0_1, r0, rfl, w0_1, kk0⟩ := kk0
  obtain ⟨a0_2, r0, rfl, w0_2, kk0⟩ := kk0
  obtain ⟨a0_3, r0, rfl, w0_3, kk0⟩ := kk0
  obtain ⟨a0_4, r0, rfl, kk0⟩ := kk0
  obtain ⟨a0_5, r0, rfl, w0_5, kk0⟩ := kk0
  obtain ⟨a0_6, r0, rfl, w0_6, kk0⟩ := kk0
  obtain rfl := kk0
  have k1 := h1
  have lt1 : ∀ x ∈ p1, x.block < W.heap.size := by obtain ⟨m, hm⟩ := k1; exact DataW.trod_lt m _ _ _ hm
  have hv1 := hval 1 57 v1 rfl rfl
  obtain ⟨zs1, hzs1, rfl, wzs1⟩ := open_flat (P := Try.prog) (t := 57) (n := 5) Try.underlying57 flat57_ hv1 h1
  obtain ⟨a1_0, a1_1, a1_2, a1_3, a1_4, rfl⟩ := list5 hzs1
  clear hA0
  refine (walk W a0_0 w0_0 a0_1 w0_1 a0_2 w0_2 a0_3 w0_3 a0_4 a0_5 w0_5 a0_6 w0_6 a1_0 a1_1 a1_2 a1_3 a1_4 (wzs1 _ (by simp)) (wzs1 _ (by simp)) (wzs1 _ (by simp)) (wzs1 _ (by simp)) (wzs1 _ (by simp))).mono fun e W' ⟨he, bel⟩ => ?_
  subst he
  exact ⟨_, rfl, _, _, _, [], _, [], hW', trodAll_mk1 (shut_bool Try.underlying4 _), (trodAll_cons_mk (Below.trod laidOut (by kernel_rfl) (of_decide_eq_true (by kernel_rfl)) k0 bel lt0) (trodAll_cons_mk (Below.trod laidOut (by kernel_rfl) (of_decide_eq_true (by kernel_rfl)) k1 bel lt1) trodAll_mk0)), rfl, bel.frame _, fun h => by cases h⟩

theorem proved : Rows.FnExactIsValidSampleSaid :=
  OpenClaim.holds_of_wide 7 Try.f7 rfl rfl rfl rfl rfl rfl rfl ⟨rfl, rfl, rfl, rfl, rfl⟩ rfl rfl rfl rfl rfl (by kernel_rfl) Try.func7 (by kernel_rfl)
    (of_decide_eq_true (by kernel_rfl)) (by unfold Func.isWrapper; first | (rw [if_pos (by decide +kernel)]; kernel_rfl) | (rw [if_neg (by decide +kernel)]; exact ⟨rfl, rfl⟩))
    (fun os started H enc _ => lifted os started H enc)
#print axioms proved
end Go.Proofs.Ytbgpcgimmiinbaa.fnExactIsValidSample
