/-
  Proved: the law FnExactPixelSamples returns true for every input and its arguments read behind the call as they read before. Conditions: none of our own; those of the given row alone.
-/
import Derived.Test.YtbgpcgimmiinbaaRows
import Derived.WalkKit
import Derived.ProofKit
import Derived.OpenShut
import Derived.ShutString
import Derived.SliceStrings
import Derived.ChangeOld
import Derived.Below
import Derived.Test.YtbgpcgimmiinbaaKV
import Derived.Test.YtbgpcgimmiinbaaInts
import Derived.Test.YtbgpcgimmiinbaaVbox
import Derived.Test.YtbgpcgimmiinbaaVec
import Derived.Test.YtbgpcgimmiinbaaHeld
import Derived.Test.YtbgpcgimmiinbaaMem
import Derived.Test.YtbgpcgimmiinbaaFlat
import Derived.Test.YtbgpcgimmiinbaaRowC
import Derived.Test.YtbgpcgimmiinbaaCam
import Derived.Test.YtbgpcgimmiinbaaSmp
import Derived.Test.YtbgpcgimmiinbaaPx
import Derived.Test.YtbgpcgimmiinbaaPy
import Derived.Deep.RegionHeld3
import Derived.Deep.DeepCutAuto
import Derived.Handy
namespace Go.Proofs.Ytbgpcgimmiinbaa.fnExactPixelSamples
open Go.ChangeShapes Go.WideShapes Go.ChangeAt Go.RowKit
open Go.ChangeMaps (open_string shut_string)
set_option linter.unusedVariables false

theorem own : ownKnob Try.prog.godebug = none := by kernel_rfl
theorem laidOut : laidOutB Try.prog = true := by kernel_rfl
theorem flatK52_ : FlatK Try.prog 52 [false, false, false, false, true, false, false] := flatKS (ks := [[false], [false], [false], [false], [true], [false], [false]]) Try.underlying52 (n := 7) (by kernel_rfl) (by exact ⟨[false], _, rfl, by kernel_rfl, by kernel_rfl, flatK_int Try.underlying3, ⟨[false], _, rfl, by kernel_rfl, by kernel_rfl, flatK_int Try.underlying3, ⟨[false], _, rfl, by kernel_rfl, by kernel_rfl, flatK_int Try.underlying3, ⟨[false], _, rfl, by kernel_rfl, by kernel_rfl, flatK_int Try.underlying3, ⟨[true], _, rfl, by kernel_rfl, by kernel_rfl, flatK_bool Try.underlying4, ⟨[false], _, rfl, by kernel_rfl, by kernel_rfl, flatK_int Try.underlying3, ⟨[false], _, rfl, by kernel_rfl, by kernel_rfl, flatK_int Try.underlying3, ⟨rfl, by kernel_rfl⟩⟩⟩⟩⟩⟩⟩⟩)
set_option maxHeartbeats 4000000 in
theorem walk (w : World) (a0_0 : Int) (w0_0 : (Lit.int .i64 a0_0).wf = true) (a0_1 : Int) (w0_1 : (Lit.int .i64 a0_1).wf = true) (a0_2 : Int) (w0_2 : (Lit.int .i64 a0_2).wf = true) (a0_3 : Int) (w0_3 : (Lit.int .i64 a0_3).wf = true) (a0_4 : Bool) (a0_5 : Int) (w0_5 : (Lit.int .i64 a0_5).wf = true) (a0_6 : Int) (w0_6 : (Lit.int .i64 a0_6).wf = true) (a1 : Int) (w1 : (Lit.int .i64 a1).wf = true) (a2 : Int) (w2 : (Lit.int .i64 a2).wf = true) (a3 : Int) (w3 : (Lit.int .i64 a3).wf = true) :
    Calls Try.prog 6 #[.agg #[.int .i64 a0_0, .int .i64 a0_1, .int .i64 a0_2, .int .i64 a0_3, .bool a0_4, .int .i64 a0_5, .int .i64 a0_6], .int .i64 a1, .int .i64 a2, .int .i64 a3] w fun e w' => e = .returned (.bool true) ∧ Below w.heap.size w w' := by
  have HT : Held w (w.alloc (.cells #[.int .i64 a0_0, .int .i64 a0_1, .int .i64 a0_2, .int .i64 a0_3, .bool a0_4, .int .i64 a0_5, .int .i64 a0_6] 52)) [(w.heap.size, [.int .i64 a0_0, .int .i64 a0_1, .int .i64 a0_2, .int .i64 a0_3, .bool a0_4, .int .i64 a0_5, .int .i64 a0_6])] := by
    have h := (Held.nil w).new #[.int .i64 a0_0, .int .i64 a0_1, .int .i64 a0_2, .int .i64 a0_3, .bool a0_4, .int .i64 a0_5, .int .i64 a0_6] 52
    simpa only [World.size_alloc] using h
  obtain ⟨xs, hxs⟩ : ∃ xs, xs = psL (okC a0_0 a0_1 a0_2 a0_3 a0_5 a0_6) a0_0 a0_1 a1 a2 a3 := ⟨_, rfl⟩
  have hlen : xs.length ≤ 16 := by rw [hxs]; exact psL_len ..
  have HSA : Hid (∀ w : World, Calls Try.prog 23 #[cam a0_0 a0_1 a0_2 a0_3 a0_4 a0_5 a0_6, .int .i64 a1, .int .i64 a2, .int .i64 a3] w (SmpsOut xs w)) := Lib.hid (fun w => by rw [hxs]; exact sPixelSamples_any a0_0 a0_1 a0_2 a0_3 a0_4 a0_5 a0_6 a1 a2 a3 w)
  have HIA : Hid (∀ w : World, Calls Try.prog 11 #[cam a0_0 a0_1 a0_2 a0_3 a0_4 a0_5 a0_6, .int .i64 a1, .int .i64 a2, .int .i64 a3] w (SmpsOut xs w)) := Lib.hid (fun w => by rw [hxs]; exact pixelSamples_any a0_0 a0_1 a0_2 a0_3 a0_4 a0_5 a0_6 a1 a2 a3 w)
  clear hxs
  go_enter Try.func6, Try.ntmps6
  go_upto_region 1 with fail
  have c0 := (HT.box 0).c 0
  have c1 := (HT.box 0).c 1
  have c2 := (HT.box 0).c 2
  have c3 := (HT.box 0).c 3
  have c4 := (HT.box 0).c 4
  have c5 := (HT.box 0).c 5
  have c6 := (HT.box 0).c 6
  go_wp2_with fail
  refine (toCamera_any _ _ _ _ _ _ _ _).mono ?_
  rintro e w1 ⟨rfl, hb1⟩
  have HT := HT.later hb1
  clear hb1 c0 c1 c2 c3 c4 c5 c6
  go_wp2_with fail
  refine (HSA.out _).mono ?_
  rintro e w2 ⟨A1, k1, rfl, ho1, hb2⟩
  have HT := HT.later hb2
  have HR := Lib.hid (RowC.of_own sg_len ho1 rfl : RowC 5 sg w2 w2.heap.size A1 xs)
  clear hb2 ho1 HSA
  go_upto_region 2 with fail
  have c0 := (HT.box 0).c 0
  have c1 := (HT.box 0).c 1
  have c2 := (HT.box 0).c 2
  have c3 := (HT.box 0).c 3
  have c4 := (HT.box 0).c 4
  have c5 := (HT.box 0).c 5
  have c6 := (HT.box 0).c 6
  go_wp2_with fail
  refine (toCamera_any _ _ _ _ _ _ _ _).mono ?_
  rintro e w3 ⟨rfl, hb3⟩
  have HT := HT.later hb3
  have HR := Lib.hid (HR.out.later hb3)
  clear hb3 c0 c1 c2 c3 c4 c5 c6
  obtain ⟨lo, hlo⟩ : ∃ lo, lo = w3.heap.size := ⟨_, rfl⟩
  have HTL : w.heap.size < lo := by rw [hlo]; exact (HT.box 0).lt
  go_wp2_with fail
  refine (HIA.out _).mono ?_
  rintro e w4 ⟨A2, k2, rfl, ho2, hb4⟩
  have HT := HT.later hb4
  have HR := Lib.hid (HR.out.below hb4)
  have HO := Lib.hid ho2
  have hs4 := hb4.size
  rw [← hlo] at HR HO hs4
  clear hb4 ho2 hlo
  go_wp2_with fail
  refine (eqSmpS_same _ _ _ _ xs _ (RowC.of_own sg_len HO.out rfl) (HR.out.more hs4) (by omega)).mono ?_
  rintro e w5 ⟨rfl, hb5⟩
  have HT := HT.later hb5
  have HO5 := Lib.hid (own_keep' HO.out hb5)
  have HR5 := Lib.hid (HR.out.below (hb5.mono hs4))
  have hs5 : lo ≤ w5.heap.size := Nat.le_trans hs4 hb5.size
  clear hb5 HO HR hs4
  go_wp2_with fail
  refine (markSmpS_any _ _ lo 1 xs _ HO5.out (by omega)).mono ?_
  rintro e w6 ⟨rfl, ho6, hb6⟩
  have HT := HT.laterP5 hb6 (by omega) (by simp <;> omega)
  have HM6 : Hid (RowC 5 sg w6 w6.heap.size A2 (marks5 1 xs.length)) := Lib.hid (RowC.of_own sg_len ho6 (marks5_len _ _))
  have HR6 := Lib.hid (HR5.out.below hb6)
  have hs6 : lo ≤ w6.heap.size := Nat.le_trans hs5 hb6.size
  clear ho6 hb6 HO5 HR5 hs5
  go_wp2_with fail
  refine (heldSmpS_any _ _ 1 xs.length _ HM6.out (by omega)).mono ?_
  rintro e w7 ⟨rfl, hb7⟩
  have HT := HT.later hb7
  have HM := Lib.hid (HM6.out.later hb7)
  have HR := Lib.hid ((HR6.out.below (hb7.mono hs6)).more (Nat.le_trans hs6 hb7.size))
  clear hb7 HM6 HR6 hs6 HTL
  go_upto_region 13 with fail
  have c0 := (HT.box 0).c 0
  have c1 := (HT.box 0).c 1
  have c2 := (HT.box 0).c 2
  have c3 := (HT.box 0).c 3
  have c4 := (HT.box 0).c 4
  have c5 := (HT.box 0).c 5
  have c6 := (HT.box 0).c 6
  go_wp2_with fail
  refine (toCamera_any _ _ _ _ _ _ _ _).mono ?_
  rintro e w8 ⟨rfl, hb8⟩
  have HT := HT.later hb8
  have HM := Lib.hid (HM.out.later hb8)
  have HR := Lib.hid (HR.out.later hb8)
  clear hb8 c0 c1 c2 c3 c4 c5 c6
  go_wp2_with fail
  refine (HIA.out _).mono ?_
  rintro e w9 ⟨A6, k6, rfl, ho9, hb9⟩
  have HT := HT.later hb9
  have HM := Lib.hid (HM.out.later hb9)
  have HR := Lib.hid (HR.out.later hb9)
  have HO := Lib.hid ho9
  clear hb9 ho9 HIA
  go_wp2_with fail
  refine (eqSmpS_same _ _ _ _ xs _ (RowC.of_own sg_len HO.out rfl) HR.out (by omega)).mono ?_
  rintro e w10 ⟨rfl, hb10⟩
  have HT := HT.later hb10
  have HM10 := Lib.hid (HM.out.later hb10)
  clear hb10 HM HO HR
  go_wp2_with fail
  refine (heldSmpS_any _ _ 1 xs.length _ HM10.out (by omega)).mono ?_
  rintro e w11 ⟨rfl, hb11⟩
  have HT := HT.later hb11
  clear hb11 HM10
  go_wp2_with fail
  go_ret
  exact ⟨rfl, HT.below⟩

set_option maxRecDepth 100000 in
theorem lifted (os : Os) (started : os.Started) (H : Type) (enc : TypeId × Value → H) :
    ReturnsInHanded {} Try.checked os 6 .any (Rows.fnExactPixelSamplesSpec.pre6 enc Try.prog Try.f6 Rows.fnExactPixelSamplesRow.domain false) (Rows.fnExactPixelSamplesSpec.post enc Try.prog Try.f6 false true false false) := by
  refine returnsInHanded_of_change (C := Try.checked) own started (by kernel_rfl) Try.func6
    (ChangeSpec.witness6 (enc := enc) (C := Try.checked) false ⟨#[], #[.agg #[.int .i64 0, .int .i64 0, .int .i64 0, .int .i64 0, .bool false, .int .i64 0, .int .i64 0], .int .i64 0, .int .i64 0, .int .i64 0], []⟩ 8 (by kernel_rfl) (by kernel_rfl) (by kernel_rfl) (by kernel_rfl)) ?_
  intro W base args ds gs before hval0 hW hcnd _
  have hval : ∀ (j : Nat) t v, Try.f6.params[j]? = some t → args[j]? = some v → Value.okWide Try.prog W .any base t v := hval0
  have hW' := hW
  obtain ⟨p, q, hA0, hV, rfl, hfz, hnd⟩ := hW
  have hA : DataW.TrodAll enc Try.prog W 0 (fun _ => true) true Try.f6.params.toList args.toList ds p := hA0
  rw [Try.params6] at hA hval
  obtain ⟨v0, vs0, d0, ds0, p0, q0, hargs, rfl, rfl, h0, r1000⟩ := trodAll_cons hA
  obtain ⟨v1, vs1, d1, ds1, p1, q1, rfl, rfl, rfl, h1, r1001⟩ := trodAll_cons r1000
  obtain ⟨v2, vs2, d2, ds2, p2, q2, rfl, rfl, rfl, h2, r1002⟩ := trodAll_cons r1001
  obtain ⟨v3, vs3, d3, ds3, p3, q3, rfl, rfl, rfl, h3, r1003⟩ := trodAll_cons r1002
  obtain ⟨rfl, rfl, rfl⟩ := trodAll_nil r1003
  obtain rfl : args = #[v0, v1, v2, v3] := by cases args; simp_all
  obtain ⟨rfl, rfl⟩ := trodVars_none hV
  have k0 := h0
  have lt0 : ∀ x ∈ p0, x.block < W.heap.size := by obtain ⟨m, hm⟩ := k0; exact DataW.trod_lt m _ _ _ hm
  have hv0 := hval 0 52 v0 rfl rfl
  obtain ⟨vs0, rfl, kk0⟩ := open_flatK (P := Try.prog) (t := 52) Try.underlying52 flatK52_ hv0 h0
  obtain ⟨a0_0, r0, rfl, w0_0, kk0⟩ := kk0
  obtain ⟨a0_1, r0, rfl, w0_1, kk0⟩ := kk0
  obtain ⟨a0_2, r0, rfl, w0_2, kk0⟩ := kk0
  obtain ⟨a0_3, r0, rfl, w0_3, kk0⟩ := kk0
  obtain ⟨a0_4, r0, rfl, kk0⟩ := kk0
  obtain ⟨a0_5, r0, rfl, w0_5, kk0⟩ := kk0
  obtain ⟨a0_6, r0, rfl, w0_6, kk0⟩ := kk0
  obtain rfl := kk0
  obtain ⟨a1, rfl, rfl, rfl, w1⟩ := open_int Try.underlying3 (hval 1 3 v1 rfl rfl) h1
  obtain ⟨a2, rfl, rfl, rfl, w2⟩ := open_int Try.underlying3 (hval 2 3 v2 rfl rfl) h2
  obtain ⟨a3, rfl, rfl, rfl, w3⟩ := open_int Try.underlying3 (hval 3 3 v3 rfl rfl) h3
  clear hA0
  refine (walk W a0_0 w0_0 a0_1 w0_1 a0_2 w0_2 a0_3 w0_3 a0_4 a0_5 w0_5 a0_6 w0_6 a1 w1 a2 w2 a3 w3).mono fun e W' ⟨he, bel⟩ => ?_
  subst he
  exact ⟨_, rfl, _, _, _, [], _, [], hW', trodAll_mk1 (shut_bool Try.underlying4 _), (trodAll_cons_mk (Below.trod laidOut (by kernel_rfl) (of_decide_eq_true (by kernel_rfl)) k0 bel lt0) (trodAll_cons_mk (shut_int Try.underlying3 w1) (trodAll_cons_mk (shut_int Try.underlying3 w2) (trodAll_cons_mk (shut_int Try.underlying3 w3) trodAll_mk0)))), rfl, bel.frame _, fun h => by cases h⟩

theorem proved : Rows.FnExactPixelSamplesSaid :=
  OpenClaim.holds_of_wide 6 Try.f6 rfl rfl rfl rfl rfl rfl rfl ⟨rfl, rfl, rfl, rfl, rfl⟩ rfl rfl rfl rfl rfl (by kernel_rfl) Try.func6 (by kernel_rfl)
    (of_decide_eq_true (by kernel_rfl)) (by unfold Func.isWrapper; first | (rw [if_pos (by decide +kernel)]; kernel_rfl) | (rw [if_neg (by decide +kernel)]; exact ⟨rfl, rfl⟩))
    (fun os started H enc _ => lifted os started H enc)
#print axioms proved
end Go.Proofs.Ytbgpcgimmiinbaa.fnExactPixelSamples
