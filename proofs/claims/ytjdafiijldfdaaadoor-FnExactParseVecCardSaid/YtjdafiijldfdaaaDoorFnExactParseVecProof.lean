/-
  Proved: the law FnExactParseVec returns true for every input and its arguments read behind the call as they read before. Conditions: none of our own; those of the given row alone.
-/
import Derived.Test.YtjdafiijldfdaaaDoorRows
import Derived.Test.YtjdafiijldfdaaaDoorCards
import Derived.Test.YtjdafiijldfdaaaDoorTie
import Derived.WalkKit
import Derived.ProofKit
import Derived.OpenShut
import Derived.ShutString
import Derived.SliceStrings
import Derived.ChangeOld
import Derived.Below
import Derived.Deep.DeepHandedRow
import Derived.Lib.LaidTab
import Derived.Test.YtjdafiijldfdaaaDoorMem
import Derived.Test.YtjdafiijldfdaaaDoorInts
import Derived.Test.YtjdafiijldfdaaaDoorIntS
import Derived.Test.YtjdafiijldfdaaaDoorFmt
import Derived.Test.YtjdafiijldfdaaaDoorFmts
import Derived.Test.YtjdafiijldfdaaaDoorParse
import Derived.Test.YtjdafiijldfdaaaDoorParses
import Derived.Test.YtjdafiijldfdaaaDoorDoor
import Derived.Test.YtjdafiijldfdaaaDoorDoorErr
import Derived.Test.YtjdafiijldfdaaaDoorFlat
import Derived.Test.YtjdafiijldfdaaaDoorVbox
import Derived.Test.YtjdafiijldfdaaaDoorVec
import Derived.Test.YtjdafiijldfdaaaDoorVlaw
import Derived.Test.YtjdafiijldfdaaaDoorVFmt
import Derived.Test.YtjdafiijldfdaaaDoorVPar
import Derived.Handy
namespace Go.Proofs.YtjdafiijldfdaaaDoor.fnExactParseVec
open Go.ChangeShapes Go.WideShapes Go.ChangeAt Go.RowKit
open Go.ChangeMaps (open_string shut_string)
set_option linter.unusedVariables false

theorem own : ownKnob Tryd.prog.godebug = none := by kernel_rfl
theorem laidOut : laidOutB Tryd.prog = true := by kernel_rfl
set_option maxHeartbeats 4000000 in
theorem walk (w : World) (a0 : ByteArray) (w0 : a0.size ≤ maxLen) (HP : Hid (Pow w)) (HE : Hid (Errs w)) :
    Calls Tryd.prog 4 #[.string a0] w fun e w' => e = .returned (.bool true) ∧ Below w.heap.size w w' := by
  by_cases hbig : a0.size ≤ 1048576
  · go_enter Tryd.func4, Tryd.ntmps4
    go_wp2_with fail
    refine (sParseVec_any _ _ hbig).mono ?_
    rintro e w1 ⟨b, x, y, z, rfl, h1, h2, hb1⟩
    have HV := Vbox.new w1 x y z 25
    have HW := hb1.alloc hb1.size (.cells #[.int .i64 x, .int .i64 y, .int .i64 z] 25)
    have HP1 := Lib.hid (HP.out.later HW)
    have HE1 := Lib.hid (HE.out.later HW)
    have H1 := Lib.hid h1
    have H2 := Lib.hid h2
    clear hb1 h1 h2
    go_wp2_with fail
    refine (parseVec_any _ _ hbig HP1.out HE1.out).mono ?_
    rintro e w2 ⟨b', x', y', z', rfl, h1, h2, hb2⟩
    obtain ⟨rfl, rfl, rfl, rfl⟩ : b = b' ∧ x = x' ∧ y = y' ∧ z = z' := by
      cases b <;> cases b'
      · obtain ⟨⟨e0, e1, e2⟩, _⟩ := H2.out rfl
        obtain ⟨⟨f0, f1, f2⟩, _⟩ := h2 rfl
        exact ⟨rfl, by rw [e0, f0], by rw [e1, f1], by rw [e2, f2]⟩
      · exact absurd (h1 rfl) ((H2.out rfl).2 _ _ _)
      · exact absurd (H1.out rfl) ((h2 rfl).2 _ _ _)
      · exact ⟨rfl, vecOf_inj (H1.out rfl) (h1 rfl)⟩
    have HV := (HV.later hb2).alloc (.cells #[.int .i64 x, .int .i64 y, .int .i64 z] 25)
    have HU := Vbox.new w2 x y z 25
    have HW := (bcall HW hb2 HW.size).alloc (bcall HW hb2 HW.size).size (.cells #[.int .i64 x, .int .i64 y, .int .i64 z] 25)
    clear hb2 h1 h2 H1 H2 HP1 HE1
    obtain ⟨c0, c1, c2, _, _, _⟩ := id HU
    obtain ⟨d0, d1, d2, _, _, _⟩ := id HV
    go_wp2_with fail
    refine (eqVec_same _ _ _ _).mono ?_
    rintro e w3 ⟨rfl, hb3⟩
    have HW := bcall HW hb3 HW.size
    clear hb3 c0 c1 c2 d0 d1 d2 HU HV
    cases b
    all_goals
      go_wp2_with fail
      go_ret
      exact ⟨rfl, HW⟩
  · have hbig' : decide ((1048576 : Int) < (a0.size : Int)) = true := decide_eq_true (by omega)
    go_enter Tryd.func4, Tryd.ntmps4
    go_wp2_with fail
    go_ret
    exact ⟨rfl, Below.refl _ _⟩

set_option maxRecDepth 100000 in
theorem contract (H : Type) (enc : TypeId × Value → H) (W : World) (base : Nat) (args : Array Value) (ds gs : List (DataW H)) (before : List MemPlace)
    (hval : ∀ (j : Nat) t v, Tryd.f4.params[j]? = some t → args[j]? = some v → Value.okWide Tryd.prog W .any base t v)
    (hW : DataW.Whole enc Tryd.prog Tryd.f4.params.toList Rows.fnExactParseVecSpec.vars false W args.toList ds gs before) (hL : laidMetH Tryd.prog Rows.fnExactParseVecRow.laid W) :
    Calls Tryd.prog 4 args W fun e W' => ∃ v, e = .returned v ∧ Rows.fnExactParseVecSpec.post enc Tryd.prog Tryd.f4 false true false false W args v W' := by
  have hW' := hW
  obtain ⟨p, q, hA0, hV, rfl, hfz, hnd⟩ := hW
  have hA : DataW.TrodAll enc Tryd.prog W 0 (fun _ => true) true Tryd.f4.params.toList args.toList ds p := hA0
  rw [Tryd.params4] at hA hval
  obtain ⟨v0, vs0, d0, ds0, p0, q0, hargs, rfl, rfl, h0, r1000⟩ := trodAll_cons hA
  obtain ⟨rfl, rfl, rfl⟩ := trodAll_nil r1000
  obtain rfl : args = #[v0] := by cases args; simp_all
  obtain ⟨rfl, rfl⟩ := trodVars_none hV
  obtain ⟨a0, rfl, rfl, rfl, w0⟩ := open_string Tryd.underlying9 (hval 0 9 v0 rfl rfl) h0
  clear hA0
  refine (walk W a0 w0 (Lib.hid (pow_of _ (by kernel_rfl) hL)) (Lib.hid (errs_of _ (by kernel_rfl) (by kernel_rfl) hL))).mono fun e W' ⟨he, bel⟩ => ?_
  subst he
  exact ⟨_, rfl, _, _, _, [], _, [], hW', trodAll_mk1 (shut_bool Tryd.underlying4 _), (trodAll_cons_mk (shut_string Tryd.underlying9 w0) trodAll_mk0), rfl, bel.frame _, fun h => by cases h⟩

theorem laid_met (os : Os) : laidMet Tryd.prog Rows.fnExactParseVecRow.laid ((laidWorldE os).forCall (fun _ _ => 0) ⟨#[], #[.string ByteArray.empty], []⟩).memory :=
  laidMet_of_run' 8 (by kernel_rfl) (by kernel_rfl)
theorem reads (os : Os) {H : Type} (enc : TypeId × Value → H) : ∃ d places, DataW.whole enc Tryd.prog ((laidWorldE os).forCall (fun _ _ => 0) ⟨#[], #[.string ByteArray.empty], []⟩).memory Tryd.f4.params.toList Rows.fnExactParseVecSpec.vars false (#[.string ByteArray.empty] : Array Value).toList 8 = some (d, [], places) :=
  ⟨[.lit (.string [])], [], by kernel_rfl⟩
set_option maxRecDepth 100000 in
theorem lifted (os : Os) (started : os.Started) (H : Type) (enc : TypeId × Value → H) (F : Stop.Interp) :
    ReturnsInHanded {} Tryd.checked os 4 .any ((OpenSpec.ofChange Rows.fnExactParseVecSpec).preRow enc Tryd.prog Tryd.f4 Rows.fnExactParseVecRow.domain false Rows.fnExactParseVecRow.laid) (((OpenSpec.ofChange Rows.fnExactParseVecSpec).at F).post enc Tryd.prog Tryd.f4 false true false false) := by
  obtain ⟨d, places, hx⟩ := reads os enc
  refine returnsInHanded_of_row (C := Tryd.checked) (s := OpenSpec.ofChange Rows.fnExactParseVecSpec) own started (by kernel_rfl) Tryd.func4
    (witness_row_atRef (enc := enc) (C := Tryd.checked) false (laidWorldE os) #[.string ByteArray.empty] rfl (by kernel_rfl) (by kernel_rfl) (by kernel_rfl)
      (OpenSpec.preRow_of_cond 8 hx (by kernel_rfl) (fun k hk => by cases hk) (by kernel_rfl) (laid_met os))) ?_
  intro W base args ds gs before hval hW _ _ _ hL _ _
  exact contract H enc W base args ds gs before hval hW hL
theorem said : Rows.FnExactParseVecSaid :=
  OpenClaim.holds_of_cond 4 Tryd.f4 rfl rfl rfl rfl rfl rfl rfl ⟨rfl, rfl, rfl, rfl, rfl⟩ rfl rfl rfl rfl rfl (by kernel_rfl) Tryd.func4 (by kernel_rfl)
    (of_decide_eq_true (by kernel_rfl)) (by unfold Func.isWrapper; first | (rw [if_pos (by decide +kernel)]; kernel_rfl) | (rw [if_neg (by decide +kernel)]; exact ⟨rfl, rfl⟩))
    (fun os started H enc _ F => by rw [OpenClaim.pre_eq_preRow]; exact lifted os started H enc F)
theorem plain (f : FuncId) (fn : Func) (hf : Tryd.pinned.checked.prog.funcNamed "loop.example/g00809/laws.FnExactParseVec" = some f) (hfn : Tryd.pinned.checked.prog.funcs[f]? = some fn) :
    true = Tryd.pinned.checked.prog.looks [] ∧ ∀ (j : Nat) t, fn.params[j]? = some t → Tryd.pinned.checked.prog.wantsStandIn t = false := by
  obtain rfl : f = 4 := Option.some.inj ((show Tryd.prog.funcNamed "loop.example/g00809/laws.FnExactParseVec" = some 4 by kernel_rfl).symm.trans hf) |>.symm
  obtain rfl : fn = Tryd.f4 := (Option.some.inj (Tryd.func4.symm.trans hfn)).symm
  refine ⟨by kernel_rfl, fun j t ht => ?_⟩
  rw [Tryd.params4] at ht
  have hm := Array.mem_of_getElem? ht
  simp only [List.mem_toArray, List.mem_cons, List.not_mem_nil, or_false] at hm
  rcases hm with rfl
  · exact (show Tryd.prog.wantsStandIn 9 = false by kernel_rfl)
theorem proved : Rows.FnExactParseVecCardSaid :=
  Claim7.holds_tied_plain_at .later [] _ _ _ _ said (fun _ h => by cases h) (by kernel_rfl) (fun _ h => by cases h) fnExactParseVec_row_tie rfl ⟨rfl, rfl⟩ (by kernel_rfl) rfl plain (by kernel_rfl)
#print axioms proved
end Go.Proofs.YtjdafiijldfdaaaDoor.fnExactParseVec
