/-
  Proved: the law FnExactSplitSubPatch returns true for every input and its arguments read behind the call as they read before. Conditions: none of our own; those of the given row alone.
-/
import Derived.Test.YtjflkapdnnecjaaRows
import Derived.WalkKit
import Derived.ProofKit
import Derived.OpenShut
import Derived.ShutString
import Derived.SliceStrings
import Derived.ChangeOld
import Derived.Below
import Derived.Test.YtjflkapdnnecjaaFlat
import Derived.Test.YtjflkapdnnecjaaVbox
import Derived.Test.YtjflkapdnnecjaaVec
import Derived.Test.YtjflkapdnnecjaaHeld
import Derived.Test.YtjflkapdnnecjaaMem
import Derived.Test.YtjflkapdnnecjaaRowC
import Derived.Test.YtjflkapdnnecjaaArr
import Derived.Test.YtjflkapdnnecjaaTr
import Derived.Test.YtjflkapdnnecjaaSub
import Derived.Test.YtjflkapdnnecjaaSplW
import Derived.Test.YtjflkapdnnecjaaSplS
import Derived.Test.YtjflkapdnnecjaaSplI
import Derived.Deep.RegionHeld3
import Derived.Deep.DeepCutAuto
import Derived.Handy
namespace Go.Proofs.Ytjflkapdnnecjaa.fnExactSplitSubPatch
open Go.ChangeShapes Go.WideShapes Go.ChangeAt Go.RowKit
open Go.ChangeMaps (open_string shut_string)
set_option linter.unusedVariables false

theorem own : ownKnob Try.prog.godebug = none := by kernel_rfl
theorem laidOut : laidOutB Try.prog = true := by kernel_rfl
theorem flat3 : FlatI Try.prog 3 (Try.prog.cellsOf 3) := by rw [show Try.prog.cellsOf 3 = 1 by kernel_rfl]; exact flat1 Try.underlying3
theorem cells47 : Try.prog.cellsOf 47 = 3 := by kernel_rfl
theorem flat47_ : FlatI Try.prog 47 3 := flatS Try.underlying47 cells47 (by exact ⟨by kernel_rfl, flat3, ⟨by kernel_rfl, flat3, ⟨by kernel_rfl, flat3, by unfold FlatFs; kernel_rfl⟩⟩⟩)
set_option maxHeartbeats 4000000 in
theorem walk (w : World) (a0_0 a0_1 a0_2 : Int) (w0_0 : (Lit.int .i64 a0_0).wf = true) (w0_1 : (Lit.int .i64 a0_1).wf = true) (w0_2 : (Lit.int .i64 a0_2).wf = true) :
    Calls Try.prog 8 #[.agg #[.int .i64 a0_0, .int .i64 a0_1, .int .i64 a0_2]] w fun e w' => e = .returned (.bool true) ∧ Below w.heap.size w w' := by
  have HT : Held w (w.alloc (.cells #[.int .i64 a0_0, .int .i64 a0_1, .int .i64 a0_2] 47)) [(w.heap.size, [.int .i64 a0_0, .int .i64 a0_1, .int .i64 a0_2])] := by
    have h := (Held.nil w).new #[.int .i64 a0_0, .int .i64 a0_1, .int .i64 a0_2] 47
    simpa only [World.size_alloc] using h
  obtain ⟨xs, hxs⟩ : ∃ xs, xs = splS a0_0 a0_1 a0_2 := ⟨_, rfl⟩
  have hlen : xs.length ≤ 4 := by rw [hxs]; exact splS_len _ _ _
  have HSA : ∀ w : World, Calls Try.prog 27 #[vec a0_0 a0_1 a0_2] w (SubsOut xs w) := fun w => by rw [hxs]; exact sSplit_any a0_0 a0_1 a0_2 w
  have HIA : ∀ w : World, Calls Try.prog 14 #[vec a0_0 a0_1 a0_2] w (SubsOut xs w) := fun w => by rw [hxs]; exact split_any a0_0 a0_1 a0_2 w
  clear hxs
  go_enter Try.func8, Try.ntmps8
  go_wp2_with fail
  refine (toSub_any _ _ _ _).mono ?_
  rintro e w1 ⟨rfl, hb1⟩
  have HT := (HT.later hb1)
  clear hb1
  go_wp2_with fail
  refine (HSA _).mono ?_
  rintro e w2 ⟨A1, k1, rfl, ho1, hb2⟩
  have HT := HT.later hb2
  have HR := Lib.hid (RowC.of_own vg_len ho1 rfl : RowC 3 vg w2 w2.heap.size A1 xs)
  clear hb2 ho1 HSA
  have c0 := (HT.box 0).c 0
  have c1 := (HT.box 0).c 1
  have c2 := (HT.box 0).c 2
  go_wp2_with fail
  refine (toSub_any _ _ _ _).mono ?_
  rintro e w3 ⟨rfl, hb3⟩
  have HT := HT.later hb3
  have HR := Lib.hid (HR.out.later hb3)
  have HT3L : w.heap.size < w3.heap.size := (HT.box 0).lt
  clear hb3 c0 c1 c2
  go_wp2_with fail
  refine (HIA _).mono ?_
  rintro e w4 ⟨A2, k2, rfl, ho2, hb4⟩
  have HT := HT.later hb4
  have HRB := Lib.hid (HR.out.below hb4)
  have HO := Lib.hid ho2
  have hs4 : w3.heap.size ≤ w4.heap.size := hb4.size
  have hw3 : w.heap.size < w3.heap.size := (HT3L)
  clear hb4 ho2 HR
  go_wp2_with fail
  refine (eqSubS_same _ _ _ _ xs _ (RowC.of_own vg_len HO.out rfl) (HRB.out.more hs4) (by omega)).mono ?_
  rintro e w5 ⟨rfl, hb5⟩
  have HT := HT.later hb5
  have HO5 := Lib.hid (own_keep' HO.out hb5)
  have HR5 := Lib.hid (HRB.out.below (hb5.mono hs4))
  have hs5 : w3.heap.size ≤ w5.heap.size := Nat.le_trans hs4 hb5.size
  clear hb5 HO HRB
  go_wp2_with fail
  refine (markSubS_any _ _ w3.heap.size 1 xs _ HO5.out (by omega)).mono ?_
  rintro e w6 ⟨rfl, ho6, hb6⟩
  have HT := HT.laterS hb6 (by omega) (by simp <;> omega)
  have HM6 : Hid (RowC 3 vg w6 w6.heap.size A2 (markV 1 xs.length)) := Lib.hid (RowC.of_own vg_len ho6 (markV_len _ _))
  have HR6 := Lib.hid (HR5.out.below hb6)
  have hs6 : w3.heap.size ≤ w6.heap.size := Nat.le_trans hs5 hb6.size
  clear ho6 hb6 HO5 HR5
  go_wp2_with fail
  refine (heldSubS_any _ _ 1 xs.length _ HM6.out (by omega)).mono ?_
  rintro e w7 ⟨rfl, hb7⟩
  have HT := HT.later hb7
  have HM7 := Lib.hid (HM6.out.later hb7)
  have HR7 := Lib.hid (HR6.out.below (hb7.mono hs6))
  have hs7 : w3.heap.size ≤ w7.heap.size := Nat.le_trans hs6 hb7.size
  clear hb7 HM6 HR6
  have c0 := (HT.box 0).c 0
  have c1 := (HT.box 0).c 1
  have c2 := (HT.box 0).c 2
  go_wp2_with fail
  refine (toSub_any _ _ _ _).mono ?_
  rintro e w8 ⟨rfl, hb8⟩
  have HT := HT.later hb8
  have HM8 := Lib.hid (HM7.out.later hb8)
  have HR8 := Lib.hid (HR7.out.below (hb8.mono hs7))
  have hs8 : w3.heap.size ≤ w8.heap.size := Nat.le_trans hs7 hb8.size
  clear hb8 HM7 HR7 c0 c1 c2
  go_wp2_with fail
  refine (HIA _).mono ?_
  rintro e w9 ⟨A6, k6, rfl, ho9, hb9⟩
  have HT := HT.later hb9
  have HM9 := Lib.hid (HM8.out.later hb9)
  have HR9 := Lib.hid (HR8.out.below (hb9.mono hs8))
  have hs9 : w3.heap.size ≤ w9.heap.size := Nat.le_trans hs8 hb9.size
  have HO9 := Lib.hid ho9
  clear hb9 HM8 HR8 ho9 HIA
  go_wp2_with fail
  refine (eqSubS_same _ _ _ _ xs _ (RowC.of_own vg_len HO9.out rfl) (HR9.out.more hs9) (by omega)).mono ?_
  rintro e w10 ⟨rfl, hb10⟩
  have HT := HT.later hb10
  have HM10 := Lib.hid (HM9.out.later hb10)
  clear hb10 HM9 HO9 HR9
  go_wp2_with fail
  refine (heldSubS_any _ _ 1 xs.length _ HM10.out (by omega)).mono ?_
  rintro e w11 ⟨rfl, hb11⟩
  have HT := HT.later hb11
  clear hb11 HM10
  go_wp2_with fail
  go_ret
  exact ⟨rfl, HT.below⟩

set_option maxRecDepth 100000 in
theorem lifted (os : Os) (started : os.Started) (H : Type) (enc : TypeId × Value → H) :
    ReturnsInHanded {} Try.checked os 8 .any (Rows.fnExactSplitSubPatchSpec.pre6 enc Try.prog Try.f8 Rows.fnExactSplitSubPatchRow.domain false) (Rows.fnExactSplitSubPatchSpec.post enc Try.prog Try.f8 false true false false) := by
  refine returnsInHanded_of_change (C := Try.checked) own started (by kernel_rfl) Try.func8
    (ChangeSpec.witness6 (enc := enc) (C := Try.checked) false ⟨#[], #[.agg #[.int .i64 0, .int .i64 0, .int .i64 0]], []⟩ 8 (by kernel_rfl) (by kernel_rfl) (by kernel_rfl) (by kernel_rfl)) ?_
  intro W base args ds gs before hval0 hW hcnd _
  have hval : ∀ (j : Nat) t v, Try.f8.params[j]? = some t → args[j]? = some v → Value.okWide Try.prog W .any base t v := hval0
  have hW' := hW
  obtain ⟨p, q, hA0, hV, rfl, hfz, hnd⟩ := hW
  have hA : DataW.TrodAll enc Try.prog W 0 (fun _ => true) true Try.f8.params.toList args.toList ds p := hA0
  rw [Try.params8] at hA hval
  obtain ⟨v0, vs0, d0, ds0, p0, q0, hargs, rfl, rfl, h0, r1000⟩ := trodAll_cons hA
  obtain ⟨rfl, rfl, rfl⟩ := trodAll_nil r1000
  obtain rfl : args = #[v0] := by cases args; simp_all
  obtain ⟨rfl, rfl⟩ := trodVars_none hV
  have k0 := h0
  have lt0 : ∀ x ∈ p0, x.block < W.heap.size := by obtain ⟨m, hm⟩ := k0; exact DataW.trod_lt m _ _ _ hm
  have hv0 := hval 0 47 v0 rfl rfl
  obtain ⟨zs0, hzs0, rfl, wzs0⟩ := open_flat (P := Try.prog) (t := 47) (n := 3) Try.underlying47 flat47_ hv0 h0
  obtain ⟨a0_0, a0_1, a0_2, rfl⟩ := list3 hzs0
  clear hA0
  refine (walk W a0_0 a0_1 a0_2 (wzs0 _ (by simp)) (wzs0 _ (by simp)) (wzs0 _ (by simp))).mono fun e W' ⟨he, bel⟩ => ?_
  subst he
  exact ⟨_, rfl, _, _, _, [], _, [], hW', trodAll_mk1 (shut_bool Try.underlying4 _), (trodAll_cons_mk (Below.trod laidOut (by kernel_rfl) (of_decide_eq_true (by kernel_rfl)) k0 bel lt0) trodAll_mk0), rfl, bel.frame _, fun h => by cases h⟩

theorem proved : Rows.FnExactSplitSubPatchSaid :=
  OpenClaim.holds_of_wide 8 Try.f8 rfl rfl rfl rfl rfl rfl rfl ⟨rfl, rfl, rfl, rfl, rfl⟩ rfl rfl rfl rfl rfl (by kernel_rfl) Try.func8 (by kernel_rfl)
    (of_decide_eq_true (by kernel_rfl)) (by unfold Func.isWrapper; first | (rw [if_pos (by decide +kernel)]; kernel_rfl) | (rw [if_neg (by decide +kernel)]; exact ⟨rfl, rfl⟩))
    (fun os started H enc _ => lifted os started H enc)
#print axioms proved
end Go.Proofs.Ytjflkapdnnecjaa.fnExactSplitSubPatch
