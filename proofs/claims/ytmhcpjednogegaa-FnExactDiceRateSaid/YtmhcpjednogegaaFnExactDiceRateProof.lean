/-
  Proved: the law FnExactDiceRate returns true for every input and its arguments read behind the call as they read before. Conditions: none of our own; those of the given row alone.
-/
import Derived.Test.YtmhcpjednogegaaRows
import Derived.WalkKit
import Derived.ProofKit
import Derived.OpenShut
import Derived.ShutString
import Derived.SliceStrings
import Derived.ChangeOld
import Derived.Below
import Derived.Test.YtmhcpjednogegaaKV
import Derived.Test.YtmhcpjednogegaaFlat
import Derived.Test.YtmhcpjednogegaaVbox
import Derived.Test.YtmhcpjednogegaaVec
import Derived.Test.YtmhcpjednogegaaHeld
import Derived.Test.YtmhcpjednogegaaMem
import Derived.Test.YtmhcpjednogegaaRowC
import Derived.Test.YtmhcpjednogegaaArr
import Derived.Test.YtmhcpjednogegaaTr
import Derived.Test.YtmhcpjednogegaaCam
import Derived.Test.YtmhcpjednogegaaPat
import Derived.Test.YtmhcpjednogegaaPTo
import Derived.Test.YtmhcpjednogegaaSub
import Derived.Test.YtmhcpjednogegaaDv
import Derived.Test.YtmhcpjednogegaaDt
import Derived.Test.YtmhcpjednogegaaDu
import Derived.Test.YtmhcpjednogegaaDw
import Derived.Deep.RegionHeld3
import Derived.Deep.DeepCutAuto
import Derived.Handy
namespace Go.Proofs.Ytmhcpjednogegaa.fnExactDiceRate
open Go.ChangeShapes Go.WideShapes Go.ChangeAt Go.RowKit
open Go.ChangeMaps (open_string shut_string)
set_option linter.unusedVariables false

theorem own : ownKnob Try.prog.godebug = none := by kernel_rfl
theorem laidOut : laidOutB Try.prog = true := by kernel_rfl
theorem flatK48_ : FlatK Try.prog 48 [false, false, false, false, true, false, false] := flatKS (ks := [[false], [false], [false], [false], [true], [false], [false]]) Try.underlying48 (n := 7) (by kernel_rfl) (by exact ⟨[false], _, rfl, by kernel_rfl, by kernel_rfl, flatK_int Try.underlying3, ⟨[false], _, rfl, by kernel_rfl, by kernel_rfl, flatK_int Try.underlying3, ⟨[false], _, rfl, by kernel_rfl, by kernel_rfl, flatK_int Try.underlying3, ⟨[false], _, rfl, by kernel_rfl, by kernel_rfl, flatK_int Try.underlying3, ⟨[true], _, rfl, by kernel_rfl, by kernel_rfl, flatK_bool Try.underlying4, ⟨[false], _, rfl, by kernel_rfl, by kernel_rfl, flatK_int Try.underlying3, ⟨[false], _, rfl, by kernel_rfl, by kernel_rfl, flatK_int Try.underlying3, ⟨rfl, by kernel_rfl⟩⟩⟩⟩⟩⟩⟩⟩)
theorem flat3 : FlatI Try.prog 3 (Try.prog.cellsOf 3) := by rw [show Try.prog.cellsOf 3 = 1 by kernel_rfl]; exact flat1 Try.underlying3
theorem cells49 : Try.prog.cellsOf 49 = 3 := by kernel_rfl
theorem flatE49 : FlatI Try.prog 49 3 := flatS Try.underlying49 cells49 (by exact ⟨by kernel_rfl, flat3, ⟨by kernel_rfl, flat3, ⟨by kernel_rfl, flat3, by unfold FlatFs; kernel_rfl⟩⟩⟩)
theorem cellsE49 : Try.prog.cellsOf 49 = 3 := by kernel_rfl
theorem cellsA50 : Try.prog.cellsOf 50 = 4 * 3 := by kernel_rfl
theorem flat50 : FlatI Try.prog 50 (Try.prog.cellsOf 50) := by rw [show Try.prog.cellsOf 50 = 12 by kernel_rfl]; exact flatA Try.underlying50 cellsA50 cellsE49 flatE49
theorem cells52 : Try.prog.cellsOf 52 = 12 := by kernel_rfl
theorem flat52_ : FlatI Try.prog 52 12 := flatS Try.underlying52 cells52 (by exact ⟨by kernel_rfl, flat50, by unfold FlatFs; kernel_rfl⟩)
set_option maxRecDepth 100000 in
set_option maxHeartbeats 8000000 in
theorem walk (w : World) (a0_0 : Int) (w0_0 : (Lit.int .i64 a0_0).wf = true) (a0_1 : Int) (w0_1 : (Lit.int .i64 a0_1).wf = true) (a0_2 : Int) (w0_2 : (Lit.int .i64 a0_2).wf = true) (a0_3 : Int) (w0_3 : (Lit.int .i64 a0_3).wf = true) (a0_4 : Bool) (a0_5 : Int) (w0_5 : (Lit.int .i64 a0_5).wf = true) (a0_6 : Int) (w0_6 : (Lit.int .i64 a0_6).wf = true) (a1_0 a1_1 a1_2 a1_3 a1_4 a1_5 a1_6 a1_7 a1_8 a1_9 a1_10 a1_11 : Int) (w1_0 : (Lit.int .i64 a1_0).wf = true) (w1_1 : (Lit.int .i64 a1_1).wf = true) (w1_2 : (Lit.int .i64 a1_2).wf = true) (w1_3 : (Lit.int .i64 a1_3).wf = true) (w1_4 : (Lit.int .i64 a1_4).wf = true) (w1_5 : (Lit.int .i64 a1_5).wf = true) (w1_6 : (Lit.int .i64 a1_6).wf = true) (w1_7 : (Lit.int .i64 a1_7).wf = true) (w1_8 : (Lit.int .i64 a1_8).wf = true) (w1_9 : (Lit.int .i64 a1_9).wf = true) (w1_10 : (Lit.int .i64 a1_10).wf = true) (w1_11 : (Lit.int .i64 a1_11).wf = true) (a2 : Int) (w2 : (Lit.int .i64 a2).wf = true) :
    Calls Try.prog 4 #[.agg #[.int .i64 a0_0, .int .i64 a0_1, .int .i64 a0_2, .int .i64 a0_3, .bool a0_4, .int .i64 a0_5, .int .i64 a0_6], .agg #[.int .i64 a1_0, .int .i64 a1_1, .int .i64 a1_2, .int .i64 a1_3, .int .i64 a1_4, .int .i64 a1_5, .int .i64 a1_6, .int .i64 a1_7, .int .i64 a1_8, .int .i64 a1_9, .int .i64 a1_10, .int .i64 a1_11], .int .i64 a2] w fun e w' => e = .returned (.bool true) ∧ Below w.heap.size w w' := by
  have HT : Held w ((w.alloc (.cells #[.int .i64 a0_0, .int .i64 a0_1, .int .i64 a0_2, .int .i64 a0_3, .bool a0_4, .int .i64 a0_5, .int .i64 a0_6] 48)).alloc (.cells #[.int .i64 a1_0, .int .i64 a1_1, .int .i64 a1_2, .int .i64 a1_3, .int .i64 a1_4, .int .i64 a1_5, .int .i64 a1_6, .int .i64 a1_7, .int .i64 a1_8, .int .i64 a1_9, .int .i64 a1_10, .int .i64 a1_11] 52)) [(w.heap.size + 1, [.int .i64 a1_0, .int .i64 a1_1, .int .i64 a1_2, .int .i64 a1_3, .int .i64 a1_4, .int .i64 a1_5, .int .i64 a1_6, .int .i64 a1_7, .int .i64 a1_8, .int .i64 a1_9, .int .i64 a1_10, .int .i64 a1_11]), (w.heap.size, [.int .i64 a0_0, .int .i64 a0_1, .int .i64 a0_2, .int .i64 a0_3, .bool a0_4, .int .i64 a0_5, .int .i64 a0_6])] := by
    have h := ((Held.nil w).new #[.int .i64 a0_0, .int .i64 a0_1, .int .i64 a0_2, .int .i64 a0_3, .bool a0_4, .int .i64 a0_5, .int .i64 a0_6] 48).new #[.int .i64 a1_0, .int .i64 a1_1, .int .i64 a1_2, .int .i64 a1_3, .int .i64 a1_4, .int .i64 a1_5, .int .i64 a1_6, .int .i64 a1_7, .int .i64 a1_8, .int .i64 a1_9, .int .i64 a1_10, .int .i64 a1_11] 52
    simpa only [World.size_alloc] using h
  obtain ⟨x, hx⟩ : ∃ x, x = rateA (⟨a0_0, a0_1, a0_2, a0_3, a0_4, a0_5, a0_6⟩ : CV) (⟨a1_0, a1_1, a1_2, a1_3, a1_4, a1_5, a1_6, a1_7, a1_8, a1_9, a1_10, a1_11⟩ : PV) a2 := ⟨_, rfl⟩
  have HSA : Hid (∀ w : World, Calls Try.prog 16 #[cam a0_0 a0_1 a0_2 a0_3 a0_4 a0_5 a0_6, tr a1_0 a1_1 a1_2 a1_3 a1_4 a1_5 a1_6 a1_7 a1_8 a1_9 a1_10 a1_11, .int .i64 a2] w (fun e w' => e = .returned (.int .i64 x) ∧ Below w.heap.size w w')) := Lib.hid (fun w => by rw [hx]; exact sDiceRate_any (⟨a0_0, a0_1, a0_2, a0_3, a0_4, a0_5, a0_6⟩ : CV) (⟨a1_0, a1_1, a1_2, a1_3, a1_4, a1_5, a1_6, a1_7, a1_8, a1_9, a1_10, a1_11⟩ : PV) a2 w)
  have HIA : Hid (∀ w : World, Calls Try.prog 15 #[cam a0_0 a0_1 a0_2 a0_3 a0_4 a0_5 a0_6, tr a1_0 a1_1 a1_2 a1_3 a1_4 a1_5 a1_6 a1_7 a1_8 a1_9 a1_10 a1_11, .int .i64 a2] w (fun e w' => e = .returned (.int .i64 x) ∧ Below w.heap.size w w')) := Lib.hid (fun w => by rw [hx]; exact diceRate_any (⟨a0_0, a0_1, a0_2, a0_3, a0_4, a0_5, a0_6⟩ : CV) (⟨a1_0, a1_1, a1_2, a1_3, a1_4, a1_5, a1_6, a1_7, a1_8, a1_9, a1_10, a1_11⟩ : PV) a2 w)
  clear hx
  have HC : ∀ W, Held w W [(w.heap.size + 1, [.int .i64 a1_0, .int .i64 a1_1, .int .i64 a1_2, .int .i64 a1_3, .int .i64 a1_4, .int .i64 a1_5, .int .i64 a1_6, .int .i64 a1_7, .int .i64 a1_8, .int .i64 a1_9, .int .i64 a1_10, .int .i64 a1_11]), (w.heap.size, [.int .i64 a0_0, .int .i64 a0_1, .int .i64 a0_2, .int .i64 a0_3, .bool a0_4, .int .i64 a0_5, .int .i64 a0_6])] → (W.cell? ⟨w.heap.size, 0, none⟩ = some (.int .i64 a0_0) ∧ W.cell? ⟨w.heap.size, 1, none⟩ = some (.int .i64 a0_1) ∧ W.cell? ⟨w.heap.size, 2, none⟩ = some (.int .i64 a0_2) ∧ W.cell? ⟨w.heap.size, 3, none⟩ = some (.int .i64 a0_3) ∧ W.cell? ⟨w.heap.size, 4, none⟩ = some (.bool a0_4) ∧ W.cell? ⟨w.heap.size, 5, none⟩ = some (.int .i64 a0_5) ∧ W.cell? ⟨w.heap.size, 6, none⟩ = some (.int .i64 a0_6) ∧ W.cell? ⟨w.heap.size + 1, 0, none⟩ = some (.int .i64 a1_0) ∧ W.cell? ⟨w.heap.size + 1, 1, none⟩ = some (.int .i64 a1_1) ∧ W.cell? ⟨w.heap.size + 1, 2, none⟩ = some (.int .i64 a1_2) ∧ W.cell? ⟨w.heap.size + 1, 3, none⟩ = some (.int .i64 a1_3) ∧ W.cell? ⟨w.heap.size + 1, 4, none⟩ = some (.int .i64 a1_4) ∧ W.cell? ⟨w.heap.size + 1, 5, none⟩ = some (.int .i64 a1_5) ∧ W.cell? ⟨w.heap.size + 1, 6, none⟩ = some (.int .i64 a1_6) ∧ W.cell? ⟨w.heap.size + 1, 7, none⟩ = some (.int .i64 a1_7) ∧ W.cell? ⟨w.heap.size + 1, 8, none⟩ = some (.int .i64 a1_8) ∧ W.cell? ⟨w.heap.size + 1, 9, none⟩ = some (.int .i64 a1_9) ∧ W.cell? ⟨w.heap.size + 1, 10, none⟩ = some (.int .i64 a1_10) ∧ W.cell? ⟨w.heap.size + 1, 11, none⟩ = some (.int .i64 a1_11)) := fun W h => ⟨(h.box 1).c 0, (h.box 1).c 1, (h.box 1).c 2, (h.box 1).c 3, (h.box 1).c 4, (h.box 1).c 5, (h.box 1).c 6, (h.box 0).c 0, (h.box 0).c 1, (h.box 0).c 2, (h.box 0).c 3, (h.box 0).c 4, (h.box 0).c 5, (h.box 0).c 6, (h.box 0).c 7, (h.box 0).c 8, (h.box 0).c 9, (h.box 0).c 10, (h.box 0).c 11⟩
  go_enter Try.func4, Try.ntmps4
  go_upto_region 1 with fail
  go_region_held3 (fun w' => w'.cell? ⟨w.heap.size, 0, none⟩ = some (.int .i64 a0_0) ∧ w'.cell? ⟨w.heap.size, 1, none⟩ = some (.int .i64 a0_1) ∧ w'.cell? ⟨w.heap.size, 2, none⟩ = some (.int .i64 a0_2) ∧ w'.cell? ⟨w.heap.size, 3, none⟩ = some (.int .i64 a0_3) ∧ w'.cell? ⟨w.heap.size, 4, none⟩ = some (.bool a0_4) ∧ w'.cell? ⟨w.heap.size, 5, none⟩ = some (.int .i64 a0_5) ∧ w'.cell? ⟨w.heap.size, 6, none⟩ = some (.int .i64 a0_6) ∧ w'.cell? ⟨w.heap.size + 1, 0, none⟩ = some (.int .i64 a1_0) ∧ w'.cell? ⟨w.heap.size + 1, 1, none⟩ = some (.int .i64 a1_1) ∧ w'.cell? ⟨w.heap.size + 1, 2, none⟩ = some (.int .i64 a1_2) ∧ w'.cell? ⟨w.heap.size + 1, 3, none⟩ = some (.int .i64 a1_3) ∧ w'.cell? ⟨w.heap.size + 1, 4, none⟩ = some (.int .i64 a1_4) ∧ w'.cell? ⟨w.heap.size + 1, 5, none⟩ = some (.int .i64 a1_5) ∧ w'.cell? ⟨w.heap.size + 1, 6, none⟩ = some (.int .i64 a1_6) ∧ w'.cell? ⟨w.heap.size + 1, 7, none⟩ = some (.int .i64 a1_7) ∧ w'.cell? ⟨w.heap.size + 1, 8, none⟩ = some (.int .i64 a1_8) ∧ w'.cell? ⟨w.heap.size + 1, 9, none⟩ = some (.int .i64 a1_9) ∧ w'.cell? ⟨w.heap.size + 1, 10, none⟩ = some (.int .i64 a1_10) ∧ w'.cell? ⟨w.heap.size + 1, 11, none⟩ = some (.int .i64 a1_11))
    (first | (with_reducible exact HC _ HT) | (with_reducible exact HC _ HT.drew))
    (first | (go_at_call 17; (with_reducible refine (toCamera_any _ _ _ _ _ _ _ _).mono ?_); rintro e wb ⟨rfl, hb1⟩; (first | (have HT := HT.later hb1) | (have HT := HT.drew.later hb1)); clear hb1) | (go_at_call 18; (with_reducible refine (toPatch_any _ _ _ _ _ _ _ _ _ _ _ _ _).mono ?_); rintro e wb ⟨rfl, hb1⟩; (first | (have HT := HT.later hb1) | (have HT := HT.drew.later hb1)); clear hb1) | (go_at_call 16; (with_reducible refine (HSA.out _).mono ?_); rintro e w4 ⟨rfl, hb4⟩; have HT := HT.later hb4; clear hb4))
  clear HSA
  go_upto_region 2 with fail
  go_region_held3 (fun w' => w'.cell? ⟨w.heap.size, 0, none⟩ = some (.int .i64 a0_0) ∧ w'.cell? ⟨w.heap.size, 1, none⟩ = some (.int .i64 a0_1) ∧ w'.cell? ⟨w.heap.size, 2, none⟩ = some (.int .i64 a0_2) ∧ w'.cell? ⟨w.heap.size, 3, none⟩ = some (.int .i64 a0_3) ∧ w'.cell? ⟨w.heap.size, 4, none⟩ = some (.bool a0_4) ∧ w'.cell? ⟨w.heap.size, 5, none⟩ = some (.int .i64 a0_5) ∧ w'.cell? ⟨w.heap.size, 6, none⟩ = some (.int .i64 a0_6) ∧ w'.cell? ⟨w.heap.size + 1, 0, none⟩ = some (.int .i64 a1_0) ∧ w'.cell? ⟨w.heap.size + 1, 1, none⟩ = some (.int .i64 a1_1) ∧ w'.cell? ⟨w.heap.size + 1, 2, none⟩ = some (.int .i64 a1_2) ∧ w'.cell? ⟨w.heap.size + 1, 3, none⟩ = some (.int .i64 a1_3) ∧ w'.cell? ⟨w.heap.size + 1, 4, none⟩ = some (.int .i64 a1_4) ∧ w'.cell? ⟨w.heap.size + 1, 5, none⟩ = some (.int .i64 a1_5) ∧ w'.cell? ⟨w.heap.size + 1, 6, none⟩ = some (.int .i64 a1_6) ∧ w'.cell? ⟨w.heap.size + 1, 7, none⟩ = some (.int .i64 a1_7) ∧ w'.cell? ⟨w.heap.size + 1, 8, none⟩ = some (.int .i64 a1_8) ∧ w'.cell? ⟨w.heap.size + 1, 9, none⟩ = some (.int .i64 a1_9) ∧ w'.cell? ⟨w.heap.size + 1, 10, none⟩ = some (.int .i64 a1_10) ∧ w'.cell? ⟨w.heap.size + 1, 11, none⟩ = some (.int .i64 a1_11))
    (first | (with_reducible exact HC _ HT) | (with_reducible exact HC _ HT.drew))
    (first | (go_at_call 17; (with_reducible refine (toCamera_any _ _ _ _ _ _ _ _).mono ?_); rintro e wb ⟨rfl, hb1⟩; (first | (have HT := HT.later hb1) | (have HT := HT.drew.later hb1)); clear hb1) | (go_at_call 18; (with_reducible refine (toPatch_any _ _ _ _ _ _ _ _ _ _ _ _ _).mono ?_); rintro e wb ⟨rfl, hb1⟩; (first | (have HT := HT.later hb1) | (have HT := HT.drew.later hb1)); clear hb1) | (go_at_call 15; (with_reducible refine (HIA.out _).mono ?_); rintro e w4 ⟨rfl, hb4⟩; have HT := HT.later hb4; clear hb4))
  clear HIA HC
  go_wp2_with fail
  go_ret
  exact ⟨rfl, HT.below⟩

set_option maxRecDepth 100000 in
theorem lifted (os : Os) (started : os.Started) (H : Type) (enc : TypeId × Value → H) :
    ReturnsInHanded {} Try.checked os 4 .any (Rows.fnExactDiceRateSpec.pre6 enc Try.prog Try.f4 Rows.fnExactDiceRateRow.domain false) (Rows.fnExactDiceRateSpec.post enc Try.prog Try.f4 false true false false) := by
  refine returnsInHanded_of_change (C := Try.checked) own started (by kernel_rfl) Try.func4
    (ChangeSpec.witness6 (enc := enc) (C := Try.checked) false ⟨#[], #[.agg #[.int .i64 0, .int .i64 0, .int .i64 0, .int .i64 0, .bool false, .int .i64 0, .int .i64 0], .agg #[.int .i64 0, .int .i64 0, .int .i64 0, .int .i64 0, .int .i64 0, .int .i64 0, .int .i64 0, .int .i64 0, .int .i64 0, .int .i64 0, .int .i64 0, .int .i64 0], .int .i64 0], []⟩ 8 (by kernel_rfl) (by kernel_rfl) (by kernel_rfl) (by kernel_rfl)) ?_
  intro W base args ds gs before hval0 hW hcnd _
  have hval : ∀ (j : Nat) t v, Try.f4.params[j]? = some t → args[j]? = some v → Value.okWide Try.prog W .any base t v := hval0
  have hW' := hW
  obtain ⟨p, q, hA0, hV, rfl, hfz, hnd⟩ := hW
  have hA : DataW.TrodAll enc Try.prog W 0 (fun _ => true) true Try.f4.params.toList args.toList ds p := hA0
  rw [Try.params4] at hA hval
  obtain ⟨v0, vs0, d0, ds0, p0, q0, hargs, rfl, rfl, h0, r1000⟩ := trodAll_cons hA
  obtain ⟨v1, vs1, d1, ds1, p1, q1, rfl, rfl, rfl, h1, r1001⟩ := trodAll_cons r1000
  obtain ⟨v2, vs2, d2, ds2, p2, q2, rfl, rfl, rfl, h2, r1002⟩ := trodAll_cons r1001
  obtain ⟨rfl, rfl, rfl⟩ := trodAll_nil r1002
  obtain rfl : args = #[v0, v1, v2] := by cases args; simp_all
  obtain ⟨rfl, rfl⟩ := trodVars_none hV
  have k0 := h0
  have lt0 : ∀ x ∈ p0, x.block < W.heap.size := by obtain ⟨m, hm⟩ := k0; exact DataW.trod_lt m _ _ _ hm
  have hv0 := hval 0 48 v0 rfl rfl
  obtain ⟨vs0, rfl, kk0⟩ := open_flatK (P := Try.prog) (t := 48) Try.underlying48 flatK48_ hv0 h0
  obtain ⟨a0_0, r0, rfl, w0_0, kk0⟩ := kk0
  obtain ⟨a0_1, r0, rfl, w0_1, kk0⟩ := kk0
  obtain ⟨a0_2, r0, rfl, w0_2, kk0⟩ := kk0
  obtain ⟨a0_3, r0, rfl, w0_3, kk0⟩ := kk0
  obtain ⟨a0_4, r0, rfl, kk0⟩ := kk0
  obtain ⟨a0_5, r0, rfl, w0_5, kk0⟩ := kk0
  obtain ⟨a0_6, r0, rfl, w0_6, kk0⟩ := kk0
  obtain rfl := kk0
  have k1 := h1
  have lt1 : ∀ x ∈ p1, x.block < W.heap.size := by obtain ⟨m, hm⟩ := k1; exact DataW.trod_lt m _ _ _ hm
  have hv1 := hval 1 52 v1 rfl rfl
  obtain ⟨zs1, hzs1, rfl, wzs1⟩ := open_flat (P := Try.prog) (t := 52) (n := 12) Try.underlying52 flat52_ hv1 h1
  obtain ⟨a1_0, a1_1, a1_2, a1_3, a1_4, a1_5, a1_6, a1_7, a1_8, a1_9, a1_10, a1_11, rfl⟩ := list12 hzs1
  obtain ⟨a2, rfl, rfl, rfl, w2⟩ := open_int Try.underlying3 (hval 2 3 v2 rfl rfl) h2
  clear hA0
  refine (walk W a0_0 w0_0 a0_1 w0_1 a0_2 w0_2 a0_3 w0_3 a0_4 a0_5 w0_5 a0_6 w0_6 a1_0 a1_1 a1_2 a1_3 a1_4 a1_5 a1_6 a1_7 a1_8 a1_9 a1_10 a1_11 (wzs1 _ (by simp)) (wzs1 _ (by simp)) (wzs1 _ (by simp)) (wzs1 _ (by simp)) (wzs1 _ (by simp)) (wzs1 _ (by simp)) (wzs1 _ (by simp)) (wzs1 _ (by simp)) (wzs1 _ (by simp)) (wzs1 _ (by simp)) (wzs1 _ (by simp)) (wzs1 _ (by simp)) a2 w2).mono fun e W' ⟨he, bel⟩ => ?_
  subst he
  exact ⟨_, rfl, _, _, _, [], _, [], hW', trodAll_mk1 (shut_bool Try.underlying4 _), (trodAll_cons_mk (Below.trod laidOut (by kernel_rfl) (of_decide_eq_true (by kernel_rfl)) k0 bel lt0) (trodAll_cons_mk (Below.trod laidOut (by kernel_rfl) (of_decide_eq_true (by kernel_rfl)) k1 bel lt1) (trodAll_cons_mk (shut_int Try.underlying3 w2) trodAll_mk0))), rfl, bel.frame _, fun h => by cases h⟩

theorem proved : Rows.FnExactDiceRateSaid :=
  OpenClaim.holds_of_wide 4 Try.f4 rfl rfl rfl rfl rfl rfl rfl ⟨rfl, rfl, rfl, rfl, rfl⟩ rfl rfl rfl rfl rfl (by kernel_rfl) Try.func4 (by kernel_rfl)
    (of_decide_eq_true (by kernel_rfl)) (by unfold Func.isWrapper; first | (rw [if_pos (by decide +kernel)]; kernel_rfl) | (rw [if_neg (by decide +kernel)]; exact ⟨rfl, rfl⟩))
    (fun os started H enc _ => lifted os started H enc)
#print axioms proved
end Go.Proofs.Ytmhcpjednogegaa.fnExactDiceRate
