/-
  Proved: the law FnExactParseTransform returns true for every input and its arguments read behind the call as they read before. Conditions: none of our own; those of the given row alone.
-/
import Derived.Test.YtjflkapdnnecjaaDoorRows
import Derived.Test.YtjflkapdnnecjaaDoorCards
import Derived.Test.YtjflkapdnnecjaaDoorTie
import Derived.WalkKit
import Derived.ProofKit
import Derived.OpenShut
import Derived.ShutString
import Derived.SliceStrings
import Derived.ChangeOld
import Derived.Below
import Derived.Deep.DeepHandedRow
import Derived.Lib.LaidTab
import Derived.Test.YtjflkapdnnecjaaDoorMem
import Derived.Test.YtjflkapdnnecjaaDoorStrS
import Derived.Test.YtjflkapdnnecjaaDoorInts
import Derived.Test.YtjflkapdnnecjaaDoorIntS
import Derived.Test.YtjflkapdnnecjaaDoorSplit
import Derived.Test.YtjflkapdnnecjaaDoorFmt
import Derived.Test.YtjflkapdnnecjaaDoorFmts
import Derived.Test.YtjflkapdnnecjaaDoorParse
import Derived.Test.YtjflkapdnnecjaaDoorParses
import Derived.Test.YtjflkapdnnecjaaDoorRound
import Derived.Test.YtjflkapdnnecjaaDoorNumsRound
import Derived.Test.YtjflkapdnnecjaaDoorDoor
import Derived.Test.YtjflkapdnnecjaaDoorDoorErr
import Derived.Test.YtjflkapdnnecjaaDoorFlat
import Derived.Test.YtjflkapdnnecjaaDoorVbox
import Derived.Test.YtjflkapdnnecjaaDoorVec
import Derived.Test.YtjflkapdnnecjaaDoorVlaw
import Derived.Test.YtjflkapdnnecjaaDoorVFmt
import Derived.Test.YtjflkapdnnecjaaDoorVPar
import Derived.Test.YtjflkapdnnecjaaDoorHeld
import Derived.Test.YtjflkapdnnecjaaDoorArr
import Derived.Test.YtjflkapdnnecjaaDoorTr
import Derived.Test.YtjflkapdnnecjaaDoorTTo
import Derived.Test.YtjflkapdnnecjaaDoorTMat
import Derived.Test.YtjflkapdnnecjaaDoorTFmt
import Derived.Test.YtjflkapdnnecjaaDoorCut
import Derived.Test.YtjflkapdnnecjaaDoorTOf
import Derived.Test.YtjflkapdnnecjaaDoorTPi
import Derived.Test.YtjflkapdnnecjaaDoorTPs
import Derived.Handy
namespace Go.Proofs.YtjflkapdnnecjaaDoor.fnExactParseTransform
open Go.ChangeShapes Go.WideShapes Go.ChangeAt Go.RowKit
open Go.ChangeMaps (open_string shut_string)
set_option linter.unusedVariables false

theorem own : ownKnob Tryd.prog.godebug = none := by kernel_rfl
theorem laidOut : laidOutB Tryd.prog = true := by kernel_rfl
set_option maxRecDepth 100000 in
set_option maxHeartbeats 8000000 in
theorem walk (w : World) (a0 : ByteArray) (w0 : a0.size ≤ maxLen) (HP : Hid (Pow w)) (HE : Hid (Errs w)) :
    Calls Tryd.prog 3 #[.string a0] w fun e w' => e = .returned (.bool true) ∧ Below w.heap.size w w' := by
  by_cases hbig : a0.size ≤ 1048576
  · have HT := Held.nil w
    go_enter Tryd.func3, Tryd.ntmps3
    go_wp2_with fail
    refine (sParseTransform_any _ _ hbig).mono ?_
    rintro e w1 ⟨h1, hb1⟩
    obtain ⟨b, m0, m1, m2, m3, m4, m5, m6, m7, m8, x, y, z, rfl, hy, hn⟩ : ∃ (b : Bool) (m0 m1 m2 m3 m4 m5 m6 m7 m8 x y z : Int), e = .returned (.tuple #[tr m0 m1 m2 m3 m4 m5 m6 m7 m8 x y z, .bool b]) ∧ (b = true → TrOf a0 [m0, m1, m2, m3, m4, m5, m6, m7, m8] x y z) ∧ (b = false → m0 = 0 ∧ m1 = 0 ∧ m2 = 0 ∧ m3 = 0 ∧ m4 = 0 ∧ m5 = 0 ∧ m6 = 0 ∧ m7 = 0 ∧ m8 = 0 ∧ x = 0 ∧ y = 0 ∧ z = 0 ∧ ∀ ms p q r, ¬ TrOf a0 ms p q r) := by
      rcases h1 with ⟨m0, m1, m2, m3, m4, m5, m6, m7, m8, x, y, z, e1, h⟩ | ⟨e1, h⟩
      · exact ⟨true, m0, m1, m2, m3, m4, m5, m6, m7, m8, x, y, z, e1, fun _ => h, fun e => by cases e⟩
      · exact ⟨false, 0, 0, 0, 0, 0, 0, 0, 0, 0, 0, 0, 0, e1, fun e => (by cases e), fun _ => ⟨rfl, rfl, rfl, rfl, rfl, rfl, rfl, rfl, rfl, rfl, rfl, rfl, h⟩⟩
    have HP1 := Lib.hid (HP.out.later hb1)
    have HE1 := Lib.hid (HE.out.later hb1)
    have HT := (HT.later hb1).new #[.int .i64 m0, .int .i64 m1, .int .i64 m2, .int .i64 m3, .int .i64 m4, .int .i64 m5, .int .i64 m6, .int .i64 m7, .int .i64 m8, .int .i64 x, .int .i64 y, .int .i64 z] 26
    have HY := Lib.hid hy
    have HN := Lib.hid hn
    have HAL := Lib.hid ((Below.refl w1.heap.size w1).alloc (Nat.le_refl _) (.cells #[.int .i64 m0, .int .i64 m1, .int .i64 m2, .int .i64 m3, .int .i64 m4, .int .i64 m5, .int .i64 m6, .int .i64 m7, .int .i64 m8, .int .i64 x, .int .i64 y, .int .i64 z] 26))
    clear hb1 h1 hy hn
    go_wp2_with fail
    refine (parseTransform_any _ _ hbig (HP1.out.later HAL.out) (HE1.out.later HAL.out)).mono ?_
    rintro e w2 ⟨h2, hb2⟩
    obtain rfl : e = .returned (.tuple #[tr m0 m1 m2 m3 m4 m5 m6 m7 m8 x y z, .bool b]) := by
      rcases h2 with ⟨b0, b1, b2, b3, b4, b5, b6, b7, b8, b9, b10, b11, e2, h⟩ | ⟨e2, h⟩
      · cases b
        · exact absurd h ((HN.out rfl).2.2.2.2.2.2.2.2.2.2.2.2 _ _ _ _)
        · obtain ⟨hm, rfl, rfl, rfl⟩ := trOf_inj (HY.out rfl) h
          injection hm with q0 hm
          injection hm with q1 hm
          injection hm with q2 hm
          injection hm with q3 hm
          injection hm with q4 hm
          injection hm with q5 hm
          injection hm with q6 hm
          injection hm with q7 hm
          injection hm with q8 hm
          rw [e2, q0, q1, q2, q3, q4, q5, q6, q7, q8]
      · cases b
        · obtain ⟨q0, q1, q2, q3, q4, q5, q6, q7, q8, q9, q10, q11, _⟩ := HN.out rfl
          rw [e2, q0, q1, q2, q3, q4, q5, q6, q7, q8, q9, q10, q11]
        · exact absurd (HY.out rfl) (h _ _ _ _)
    have HT := (HT.later hb2).new #[.int .i64 m0, .int .i64 m1, .int .i64 m2, .int .i64 m3, .int .i64 m4, .int .i64 m5, .int .i64 m6, .int .i64 m7, .int .i64 m8, .int .i64 x, .int .i64 y, .int .i64 z] 26
    clear hb2 h2 HY HN HP1 HE1 HAL
    have c0 := (HT.box 0).c 0
    have c1 := (HT.box 0).c 1
    have c2 := (HT.box 0).c 2
    have c3 := (HT.box 0).c 3
    have c4 := (HT.box 0).c 4
    have c5 := (HT.box 0).c 5
    have c6 := (HT.box 0).c 6
    have c7 := (HT.box 0).c 7
    have c8 := (HT.box 0).c 8
    have c9 := (HT.box 0).c 9
    have c10 := (HT.box 0).c 10
    have c11 := (HT.box 0).c 11
    have d0 := (HT.box 1).c 0
    have d1 := (HT.box 1).c 1
    have d2 := (HT.box 1).c 2
    have d3 := (HT.box 1).c 3
    have d4 := (HT.box 1).c 4
    have d5 := (HT.box 1).c 5
    have d6 := (HT.box 1).c 6
    have d7 := (HT.box 1).c 7
    have d8 := (HT.box 1).c 8
    have d9 := (HT.box 1).c 9
    have d10 := (HT.box 1).c 10
    have d11 := (HT.box 1).c 11
    go_wp2_with fail
    refine (eqTransform_same _ _ _ _ _ _ _ _ _ _ _ _ _).mono ?_
    rintro e w3 ⟨rfl, hb3⟩
    have HT := HT.later hb3
    clear hb3 c0 c1 c2 c3 c4 c5 c6 c7 c8 c9 c10 c11 d0 d1 d2 d3 d4 d5 d6 d7 d8 d9 d10 d11
    cases b
    all_goals
      go_wp2_with fail
      go_ret
      exact ⟨rfl, HT.below⟩
  · have hbig' : decide ((1048576 : Int) < (a0.size : Int)) = true := decide_eq_true (by omega)
    go_enter Tryd.func3, Tryd.ntmps3
    go_wp2_with fail
    go_ret
    exact ⟨rfl, Below.refl _ _⟩

set_option maxRecDepth 100000 in
theorem contract (H : Type) (enc : TypeId × Value → H) (W : World) (base : Nat) (args : Array Value) (ds gs : List (DataW H)) (before : List MemPlace)
    (hval : ∀ (j : Nat) t v, Tryd.f3.params[j]? = some t → args[j]? = some v → Value.okWide Tryd.prog W .any base t v)
    (hW : DataW.Whole enc Tryd.prog Tryd.f3.params.toList Rows.fnExactParseTransformSpec.vars false W args.toList ds gs before) (hL : laidMetH Tryd.prog Rows.fnExactParseTransformRow.laid W) :
    Calls Tryd.prog 3 args W fun e W' => ∃ v, e = .returned v ∧ Rows.fnExactParseTransformSpec.post enc Tryd.prog Tryd.f3 false true false false W args v W' := by
  have hW' := hW
  obtain ⟨p, q, hA0, hV, rfl, hfz, hnd⟩ := hW
  have hA : DataW.TrodAll enc Tryd.prog W 0 (fun _ => true) true Tryd.f3.params.toList args.toList ds p := hA0
  rw [Tryd.params3] at hA hval
  obtain ⟨v0, vs0, d0, ds0, p0, q0, hargs, rfl, rfl, h0, r1000⟩ := trodAll_cons hA
  obtain ⟨rfl, rfl, rfl⟩ := trodAll_nil r1000
  obtain rfl : args = #[v0] := by cases args; simp_all
  obtain ⟨rfl, rfl⟩ := trodVars_none hV
  obtain ⟨a0, rfl, rfl, rfl, w0⟩ := open_string Tryd.underlying9 (hval 0 9 v0 rfl rfl) h0
  clear hA0
  refine (walk W a0 w0 (Lib.hid (pow_of _ (by kernel_rfl) hL)) (Lib.hid (errs_of _ (by kernel_rfl) (by kernel_rfl) hL))).mono fun e W' ⟨he, bel⟩ => ?_
  subst he
  exact ⟨_, rfl, _, _, _, [], _, [], hW', trodAll_mk1 (shut_bool Tryd.underlying4 _), (trodAll_cons_mk (shut_string Tryd.underlying9 w0) trodAll_mk0), rfl, bel.frame _, fun h => by cases h⟩

theorem laid_met (os : Os) : laidMet Tryd.prog Rows.fnExactParseTransformRow.laid ((laidWorldE os).forCall (fun _ _ => 0) ⟨#[], #[.string ByteArray.empty], []⟩).memory :=
  laidMet_of_run' 8 (by kernel_rfl) (by kernel_rfl)
theorem reads (os : Os) {H : Type} (enc : TypeId × Value → H) : ∃ d places, DataW.whole enc Tryd.prog ((laidWorldE os).forCall (fun _ _ => 0) ⟨#[], #[.string ByteArray.empty], []⟩).memory Tryd.f3.params.toList Rows.fnExactParseTransformSpec.vars false (#[.string ByteArray.empty] : Array Value).toList 8 = some (d, [], places) :=
  ⟨[.lit (.string [])], [], by kernel_rfl⟩
set_option maxRecDepth 100000 in
theorem lifted (os : Os) (started : os.Started) (H : Type) (enc : TypeId × Value → H) (F : Stop.Interp) :
    ReturnsInHanded {} Tryd.checked os 3 .any ((OpenSpec.ofChange Rows.fnExactParseTransformSpec).preRow enc Tryd.prog Tryd.f3 Rows.fnExactParseTransformRow.domain false Rows.fnExactParseTransformRow.laid) (((OpenSpec.ofChange Rows.fnExactParseTransformSpec).at F).post enc Tryd.prog Tryd.f3 false true false false) := by
  obtain ⟨d, places, hx⟩ := reads os enc
  refine returnsInHanded_of_row (C := Tryd.checked) (s := OpenSpec.ofChange Rows.fnExactParseTransformSpec) own started (by kernel_rfl) Tryd.func3
    (witness_row_atRef (enc := enc) (C := Tryd.checked) false (laidWorldE os) #[.string ByteArray.empty] rfl (by kernel_rfl) (by kernel_rfl) (by kernel_rfl)
      (OpenSpec.preRow_of_cond 8 hx (by kernel_rfl) (fun k hk => by cases hk) (by kernel_rfl) (laid_met os))) ?_
  intro W base args ds gs before hval hW _ _ _ hL _ _
  exact contract H enc W base args ds gs before hval hW hL
theorem said : Rows.FnExactParseTransformSaid :=
  OpenClaim.holds_of_cond 3 Tryd.f3 rfl rfl rfl rfl rfl rfl rfl ⟨rfl, rfl, rfl, rfl, rfl⟩ rfl rfl rfl rfl rfl (by kernel_rfl) Tryd.func3 (by kernel_rfl)
    (of_decide_eq_true (by kernel_rfl)) (by unfold Func.isWrapper; first | (rw [if_pos (by decide +kernel)]; kernel_rfl) | (rw [if_neg (by decide +kernel)]; exact ⟨rfl, rfl⟩))
    (fun os started H enc _ F => by rw [OpenClaim.pre_eq_preRow]; exact lifted os started H enc F)
theorem plain (f : FuncId) (fn : Func) (hf : Tryd.pinned.checked.prog.funcNamed "loop.example/g00809/laws.FnExactParseTransform" = some f) (hfn : Tryd.pinned.checked.prog.funcs[f]? = some fn) :
    true = Tryd.pinned.checked.prog.looks [] ∧ ∀ (j : Nat) t, fn.params[j]? = some t → Tryd.pinned.checked.prog.wantsStandIn t = false := by
  obtain rfl : f = 3 := Option.some.inj ((show Tryd.prog.funcNamed "loop.example/g00809/laws.FnExactParseTransform" = some 3 by kernel_rfl).symm.trans hf) |>.symm
  obtain rfl : fn = Tryd.f3 := (Option.some.inj (Tryd.func3.symm.trans hfn)).symm
  refine ⟨by kernel_rfl, fun j t ht => ?_⟩
  rw [Tryd.params3] at ht
  have hm := Array.mem_of_getElem? ht
  simp only [List.mem_toArray, List.mem_cons, List.not_mem_nil, or_false] at hm
  rcases hm with rfl
  · exact (show Tryd.prog.wantsStandIn 9 = false by kernel_rfl)
theorem proved : Rows.FnExactParseTransformCardSaid :=
  Claim7.holds_tied_plain_at .later [] _ _ _ _ said (fun _ h => by cases h) (by kernel_rfl) (fun _ h => by cases h) fnExactParseTransform_row_tie rfl ⟨rfl, rfl⟩ (by kernel_rfl) rfl plain (by kernel_rfl)
#print axioms proved
end Go.Proofs.YtjflkapdnnecjaaDoor.fnExactParseTransform
