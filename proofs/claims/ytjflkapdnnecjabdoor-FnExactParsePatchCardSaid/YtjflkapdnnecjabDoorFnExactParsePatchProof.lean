/-
  Proved: the law FnExactParsePatch returns true for every input and its arguments read behind the call as they read before. Conditions: none of our own; those of the given row alone.
-/
import Derived.Test.YtjflkapdnnecjabDoorRows
import Derived.Test.YtjflkapdnnecjabDoorCards
import Derived.Test.YtjflkapdnnecjabDoorTie
import Derived.WalkKit
import Derived.ProofKit
import Derived.OpenShut
import Derived.ShutString
import Derived.SliceStrings
import Derived.ChangeOld
import Derived.Below
import Derived.Deep.DeepHandedRow
import Derived.Lib.LaidTab
import Derived.Test.YtjflkapdnnecjabDoorMem
import Derived.Test.YtjflkapdnnecjabDoorStrS
import Derived.Test.YtjflkapdnnecjabDoorNumP
import Derived.Test.YtjflkapdnnecjabDoorFmt
import Derived.Test.YtjflkapdnnecjabDoorBuilder
import Derived.Test.YtjflkapdnnecjabDoorInts
import Derived.Test.YtjflkapdnnecjabDoorIntS
import Derived.Test.YtjflkapdnnecjabDoorSplit
import Derived.Test.YtjflkapdnnecjabDoorParse
import Derived.Test.YtjflkapdnnecjabDoorFmts
import Derived.Test.YtjflkapdnnecjabDoorParses
import Derived.Test.YtjflkapdnnecjabDoorRound
import Derived.Test.YtjflkapdnnecjabDoorNumsRound
import Derived.Test.YtjflkapdnnecjabDoorDoor
import Derived.Test.YtjflkapdnnecjabDoorDoorErr
import Derived.Test.YtjflkapdnnecjabDoorFlat
import Derived.Test.YtjflkapdnnecjabDoorVbox
import Derived.Test.YtjflkapdnnecjabDoorVec
import Derived.Test.YtjflkapdnnecjabDoorVlaw
import Derived.Test.YtjflkapdnnecjabDoorVFmt
import Derived.Test.YtjflkapdnnecjabDoorVPar
import Derived.Test.YtjflkapdnnecjabDoorHeld
import Derived.Test.YtjflkapdnnecjabDoorArr
import Derived.Test.YtjflkapdnnecjabDoorTr
import Derived.Test.YtjflkapdnnecjabDoorRowC
import Derived.Test.YtjflkapdnnecjabDoorPat
import Derived.Test.YtjflkapdnnecjabDoorPTo
import Derived.Test.YtjflkapdnnecjabDoorPVal
import Derived.Test.YtjflkapdnnecjabDoorPFmt
import Derived.Test.YtjflkapdnnecjabDoorPOf
import Derived.Test.YtjflkapdnnecjabDoorPPi
import Derived.Test.YtjflkapdnnecjabDoorPPs
import Derived.Handy
namespace Go.Proofs.YtjflkapdnnecjabDoor.fnExactParsePatch
open Go.ChangeShapes Go.WideShapes Go.ChangeAt Go.RowKit
open Go.ChangeMaps (open_string shut_string)
set_option linter.unusedVariables false

theorem own : ownKnob Tryd.prog.godebug = none := by kernel_rfl
theorem laidOut : laidOutB Tryd.prog = true := by kernel_rfl
set_option maxRecDepth 100000 in
set_option maxHeartbeats 8000000 in
theorem walk (w : World) (a0 : ByteArray) (w0 : a0.size ≤ maxLen) (HP : Hid (Pow w)) (HE : Hid (Errs w)) :
    Calls Tryd.prog 4 #[.string a0] w fun e w' => e = .returned (.bool true) ∧ Below w.heap.size w w' := by
  by_cases hbig : a0.size ≤ 1048576
  · have HT := Held.nil w
    go_enter Tryd.func4, Tryd.ntmps4
    go_wp2_with fail
    refine (sParsePatch_any _ _ hbig).mono ?_
    rintro e w1 ⟨h1, hb1⟩
    obtain ⟨b, m0, m1, m2, m3, m4, m5, m6, m7, m8, x, y, z, rfl, hy, hn⟩ : ∃ (b : Bool) (m0 m1 m2 m3 m4 m5 m6 m7 m8 x y z : Int), e = .returned (.tuple #[tr m0 m1 m2 m3 m4 m5 m6 m7 m8 x y z, .bool b]) ∧ (b = true → PatOf a0 [(m0, m1, m2), (m3, m4, m5), (m6, m7, m8), (x, y, z)]) ∧ (b = false → m0 = 0 ∧ m1 = 0 ∧ m2 = 0 ∧ m3 = 0 ∧ m4 = 0 ∧ m5 = 0 ∧ m6 = 0 ∧ m7 = 0 ∧ m8 = 0 ∧ x = 0 ∧ y = 0 ∧ z = 0 ∧ ∀ ps, ¬ PatOf a0 ps) := by
      rcases h1 with ⟨m0, m1, m2, m3, m4, m5, m6, m7, m8, x, y, z, e1, h⟩ | ⟨e1, h⟩
      · exact ⟨true, m0, m1, m2, m3, m4, m5, m6, m7, m8, x, y, z, e1, fun _ => h, fun e => by cases e⟩
      · exact ⟨false, 0, 0, 0, 0, 0, 0, 0, 0, 0, 0, 0, 0, e1, fun e => (by cases e), fun _ => ⟨rfl, rfl, rfl, rfl, rfl, rfl, rfl, rfl, rfl, rfl, rfl, rfl, h⟩⟩
    have HP1 := Lib.hid (HP.out.later hb1)
    have HE1 := Lib.hid (HE.out.later hb1)
    have HT := (HT.later hb1).new #[.int .i64 m0, .int .i64 m1, .int .i64 m2, .int .i64 m3, .int .i64 m4, .int .i64 m5, .int .i64 m6, .int .i64 m7, .int .i64 m8, .int .i64 x, .int .i64 y, .int .i64 z] 31
    have HY := Lib.hid hy
    have HN := Lib.hid hn
    have HAL := Lib.hid ((Below.refl w1.heap.size w1).alloc (Nat.le_refl _) (.cells #[.int .i64 m0, .int .i64 m1, .int .i64 m2, .int .i64 m3, .int .i64 m4, .int .i64 m5, .int .i64 m6, .int .i64 m7, .int .i64 m8, .int .i64 x, .int .i64 y, .int .i64 z] 31))
    clear hb1 h1 hy hn
    go_wp2_with fail
    refine (parsePatch_any _ _ hbig (HP1.out.later HAL.out) (HE1.out.later HAL.out)).mono ?_
    rintro e w2 ⟨h2, hb2⟩
    obtain rfl : e = .returned (.tuple #[tr m0 m1 m2 m3 m4 m5 m6 m7 m8 x y z, .bool b]) := by
      rcases h2 with ⟨b0, b1, b2, b3, b4, b5, b6, b7, b8, b9, b10, b11, e2, h⟩ | ⟨e2, h⟩
      · cases b
        · exact absurd h ((HN.out rfl).2.2.2.2.2.2.2.2.2.2.2.2 _)
        · have hm := patOf_inj (HY.out rfl) h
          simp only [List.cons.injEq, Prod.mk.injEq, and_true] at hm
          obtain ⟨⟨q0, q1, q2⟩, ⟨q3, q4, q5⟩, ⟨q6, q7, q8⟩, q9, q10, q11⟩ := hm
          rw [e2, q0, q1, q2, q3, q4, q5, q6, q7, q8, q9, q10, q11]
      · cases b
        · obtain ⟨q0, q1, q2, q3, q4, q5, q6, q7, q8, q9, q10, q11, _⟩ := HN.out rfl
          rw [e2, q0, q1, q2, q3, q4, q5, q6, q7, q8, q9, q10, q11]
        · exact absurd (HY.out rfl) (h _)
    have HT := (HT.later hb2).new #[.int .i64 m0, .int .i64 m1, .int .i64 m2, .int .i64 m3, .int .i64 m4, .int .i64 m5, .int .i64 m6, .int .i64 m7, .int .i64 m8, .int .i64 x, .int .i64 y, .int .i64 z] 31
    clear hb2 h2 HY HN HP1 HE1 HAL
    have c0 := (HT.box 0).c 0
    have c1 := (HT.box 0).c 1
    have c2 := (HT.box 0).c 2
    have c3 := (HT.box 0).c 3
    have c4 := (HT.box 0).c 4
    have c5 := (HT.box 0).c 5
    have c6 := (HT.box 0).c 6
    have c7 := (HT.box 0).c 7
    have c8 := (HT.box 0).c 8
    have c9 := (HT.box 0).c 9
    have c10 := (HT.box 0).c 10
    have c11 := (HT.box 0).c 11
    have d0 := (HT.box 1).c 0
    have d1 := (HT.box 1).c 1
    have d2 := (HT.box 1).c 2
    have d3 := (HT.box 1).c 3
    have d4 := (HT.box 1).c 4
    have d5 := (HT.box 1).c 5
    have d6 := (HT.box 1).c 6
    have d7 := (HT.box 1).c 7
    have d8 := (HT.box 1).c 8
    have d9 := (HT.box 1).c 9
    have d10 := (HT.box 1).c 10
    have d11 := (HT.box 1).c 11
    go_wp2_with fail
    refine (eqPatch_same _ _ _ _ _ _ _ _ _ _ _ _ _).mono ?_
    rintro e w3 ⟨rfl, hb3⟩
    have HT := HT.later hb3
    clear hb3 c0 c1 c2 c3 c4 c5 c6 c7 c8 c9 c10 c11 d0 d1 d2 d3 d4 d5 d6 d7 d8 d9 d10 d11
    cases b
    all_goals
      go_wp2_with fail
      go_ret
      exact ⟨rfl, HT.below⟩
  · have hbig' : decide ((1048576 : Int) < (a0.size : Int)) = true := decide_eq_true (by omega)
    go_enter Tryd.func4, Tryd.ntmps4
    go_wp2_with fail
    go_ret
    exact ⟨rfl, Below.refl _ _⟩

set_option maxRecDepth 100000 in
theorem contract (H : Type) (enc : TypeId × Value → H) (W : World) (base : Nat) (args : Array Value) (ds gs : List (DataW H)) (before : List MemPlace)
    (hval : ∀ (j : Nat) t v, Tryd.f4.params[j]? = some t → args[j]? = some v → Value.okWide Tryd.prog W .any base t v)
    (hW : DataW.Whole enc Tryd.prog Tryd.f4.params.toList Rows.fnExactParsePatchSpec.vars false W args.toList ds gs before) (hL : laidMetH Tryd.prog Rows.fnExactParsePatchRow.laid W) :
    Calls Tryd.prog 4 args W fun e W' => ∃ v, e = .returned v ∧ Rows.fnExactParsePatchSpec.post enc Tryd.prog Tryd.f4 false true false false W args v W' := by
  have hW' := hW
  obtain ⟨p, q, hA0, hV, rfl, hfz, hnd⟩ := hW
  have hA : DataW.TrodAll enc Tryd.prog W 0 (fun _ => true) true Tryd.f4.params.toList args.toList ds p := hA0
  rw [Tryd.params4] at hA hval
  obtain ⟨v0, vs0, d0, ds0, p0, q0, hargs, rfl, rfl, h0, r1000⟩ := trodAll_cons hA
  obtain ⟨rfl, rfl, rfl⟩ := trodAll_nil r1000
  obtain rfl : args = #[v0] := by cases args; simp_all
  obtain ⟨rfl, rfl⟩ := trodVars_none hV
  obtain ⟨a0, rfl, rfl, rfl, w0⟩ := open_string Tryd.underlying9 (hval 0 9 v0 rfl rfl) h0
  clear hA0
  refine (walk W a0 w0 (Lib.hid (pow_of _ (by kernel_rfl) hL)) (Lib.hid (errs_of _ (by kernel_rfl) (by kernel_rfl) hL))).mono fun e W' ⟨he, bel⟩ => ?_
  subst he
  exact ⟨_, rfl, _, _, _, [], _, [], hW', trodAll_mk1 (shut_bool Tryd.underlying4 _), (trodAll_cons_mk (shut_string Tryd.underlying9 w0) trodAll_mk0), rfl, bel.frame _, fun h => by cases h⟩

theorem laid_met (os : Os) : laidMet Tryd.prog Rows.fnExactParsePatchRow.laid ((laidWorldE os).forCall (fun _ _ => 0) ⟨#[], #[.string ByteArray.empty], []⟩).memory :=
  laidMet_of_run' 8 (by kernel_rfl) (by kernel_rfl)
theorem reads (os : Os) {H : Type} (enc : TypeId × Value → H) : ∃ d places, DataW.whole enc Tryd.prog ((laidWorldE os).forCall (fun _ _ => 0) ⟨#[], #[.string ByteArray.empty], []⟩).memory Tryd.f4.params.toList Rows.fnExactParsePatchSpec.vars false (#[.string ByteArray.empty] : Array Value).toList 8 = some (d, [], places) :=
  ⟨[.lit (.string [])], [], by kernel_rfl⟩
set_option maxRecDepth 100000 in
theorem lifted (os : Os) (started : os.Started) (H : Type) (enc : TypeId × Value → H) (F : Stop.Interp) :
    ReturnsInHanded {} Tryd.checked os 4 .any ((OpenSpec.ofChange Rows.fnExactParsePatchSpec).preRow enc Tryd.prog Tryd.f4 Rows.fnExactParsePatchRow.domain false Rows.fnExactParsePatchRow.laid) (((OpenSpec.ofChange Rows.fnExactParsePatchSpec).at F).post enc Tryd.prog Tryd.f4 false true false false) := by
  obtain ⟨d, places, hx⟩ := reads os enc
  refine returnsInHanded_of_row (C := Tryd.checked) (s := OpenSpec.ofChange Rows.fnExactParsePatchSpec) own started (by kernel_rfl) Tryd.func4
    (witness_row_atRef (enc := enc) (C := Tryd.checked) false (laidWorldE os) #[.string ByteArray.empty] rfl (by kernel_rfl) (by kernel_rfl) (by kernel_rfl)
      (OpenSpec.preRow_of_cond 8 hx (by kernel_rfl) (fun k hk => by cases hk) (by kernel_rfl) (laid_met os))) ?_
  intro W base args ds gs before hval hW _ _ _ hL _ _
  exact contract H enc W base args ds gs before hval hW hL
theorem said : Rows.FnExactParsePatchSaid :=
  OpenClaim.holds_of_cond 4 Tryd.f4 rfl rfl rfl rfl rfl rfl rfl ⟨rfl, rfl, rfl, rfl, rfl⟩ rfl rfl rfl rfl rfl (by kernel_rfl) Tryd.func4 (by kernel_rfl)
    (of_decide_eq_true (by kernel_rfl)) (by unfold Func.isWrapper; first | (rw [if_pos (by decide +kernel)]; kernel_rfl) | (rw [if_neg (by decide +kernel)]; exact ⟨rfl, rfl⟩))
    (fun os started H enc _ F => by rw [OpenClaim.pre_eq_preRow]; exact lifted os started H enc F)
theorem plain (f : FuncId) (fn : Func) (hf : Tryd.pinned.checked.prog.funcNamed "loop.example/g00809/laws.FnExactParsePatch" = some f) (hfn : Tryd.pinned.checked.prog.funcs[f]? = some fn) :
    true = Tryd.pinned.checked.prog.looks [] ∧ ∀ (j : Nat) t, fn.params[j]? = some t → Tryd.pinned.checked.prog.wantsStandIn t = false := by
  obtain rfl : f = 4 := Option.some.inj ((show Tryd.prog.funcNamed "loop.example/g00809/laws.FnExactParsePatch" = some 4 by kernel_rfl).symm.trans hf) |>.symm
  obtain rfl : fn = Tryd.f4 := (Option.some.inj (Tryd.func4.symm.trans hfn)).symm
  refine ⟨by kernel_rfl, fun j t ht => ?_⟩
  rw [Tryd.params4] at ht
  have hm := Array.mem_of_getElem? ht
  simp only [List.mem_toArray, List.mem_cons, List.not_mem_nil, or_false] at hm
  rcases hm with rfl
  · exact (show Tryd.prog.wantsStandIn 9 = false by kernel_rfl)
theorem proved : Rows.FnExactParsePatchCardSaid :=
  Claim7.holds_tied_plain_at .later [] _ _ _ _ said (fun _ h => by cases h) (by kernel_rfl) (fun _ h => by cases h) fnExactParsePatch_row_tie rfl ⟨rfl, rfl⟩ (by kernel_rfl) rfl plain (by kernel_rfl)
#print axioms proved
end Go.Proofs.YtjflkapdnnecjabDoor.fnExactParsePatch
