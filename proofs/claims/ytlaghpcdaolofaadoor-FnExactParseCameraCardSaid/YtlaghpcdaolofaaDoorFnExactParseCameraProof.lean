/-
  Proved: the law FnExactParseCamera returns true for every input and its arguments read behind the call as they read before. Conditions: none of our own; those of the given row alone.
-/
import Derived.Test.YtlaghpcdaolofaaDoorRows
import Derived.Test.YtlaghpcdaolofaaDoorCards
import Derived.Test.YtlaghpcdaolofaaDoorTie
import Derived.WalkKit
import Derived.ProofKit
import Derived.OpenShut
import Derived.ShutString
import Derived.SliceStrings
import Derived.ChangeOld
import Derived.Below
import Derived.Deep.DeepHandedRow
import Derived.Lib.LaidTab
import Derived.Test.YtlaghpcdaolofaaDoorMem
import Derived.Test.YtlaghpcdaolofaaDoorKV
import Derived.Test.YtlaghpcdaolofaaDoorInts
import Derived.Test.YtlaghpcdaolofaaDoorIntS
import Derived.Test.YtlaghpcdaolofaaDoorFmt
import Derived.Test.YtlaghpcdaolofaaDoorFmts
import Derived.Test.YtlaghpcdaolofaaDoorParse
import Derived.Test.YtlaghpcdaolofaaDoorParses
import Derived.Test.YtlaghpcdaolofaaDoorDoor
import Derived.Test.YtlaghpcdaolofaaDoorDoorErr
import Derived.Test.YtlaghpcdaolofaaDoorFlat
import Derived.Test.YtlaghpcdaolofaaDoorVbox
import Derived.Test.YtlaghpcdaolofaaDoorVec
import Derived.Test.YtlaghpcdaolofaaDoorHeld
import Derived.Test.YtlaghpcdaolofaaDoorCam
import Derived.Test.YtlaghpcdaolofaaDoorCFmt
import Derived.Test.YtlaghpcdaolofaaDoorCPar
import Derived.Handy
namespace Go.Proofs.YtlaghpcdaolofaaDoor.fnExactParseCamera
open Go.ChangeShapes Go.WideShapes Go.ChangeAt Go.RowKit
open Go.ChangeMaps (open_string shut_string)
set_option linter.unusedVariables false

theorem own : ownKnob Tryd.prog.godebug = none := by kernel_rfl
theorem laidOut : laidOutB Tryd.prog = true := by kernel_rfl
set_option maxHeartbeats 4000000 in
theorem walk (w : World) (a0 : ByteArray) (w0 : a0.size ≤ maxLen) (HP : Hid (Pow w)) (HE : Hid (Errs w)) :
    Calls Tryd.prog 5 #[.string a0] w fun e w' => e = .returned (.bool true) ∧ Below w.heap.size w w' := by
  by_cases hbig : a0.size ≤ 1048576
  · go_enter Tryd.func5, Tryd.ntmps5
    go_wp2_with fail
    refine (sParseCamera_any _ _ hbig).mono ?_
    rintro e w1 ⟨k, a, b, c, d, q, f, g, rfl, h1, h2, hb1⟩
    have HT := ((Held.nil w).later hb1).new #[.int .i64 a, .int .i64 b, .int .i64 c, .int .i64 d, .bool q, .int .i64 f, .int .i64 g] 24
    have HP1 := Lib.hid (HP.out.later HT.below)
    have HE1 := Lib.hid (HE.out.later HT.below)
    have H1 := Lib.hid h1
    have H2 := Lib.hid h2
    clear hb1 h1 h2
    go_wp2_with fail
    refine (parseCamera_any _ _ hbig HP1.out HE1.out).mono ?_
    rintro e w2 ⟨k', a', b', c', d', q', f', g', rfl, h1, h2, hb2⟩
    obtain ⟨rfl, rfl, rfl, rfl, rfl, rfl, rfl, rfl⟩ : k = k' ∧ a = a' ∧ b = b' ∧ c = c' ∧ d = d' ∧ q = q' ∧ f = f' ∧ g = g' := by
      cases k <;> cases k'
      · obtain ⟨⟨e0, e1, e2, e3, e4, e5, e6⟩, _⟩ := H2.out rfl
        obtain ⟨⟨f0, f1, f2, f3, f4, f5, f6⟩, _⟩ := h2 rfl
        exact ⟨rfl, by rw [e0, f0], by rw [e1, f1], by rw [e2, f2], by rw [e3, f3], by rw [e4, f4], by rw [e5, f5], by rw [e6, f6]⟩
      · exact absurd (h1 rfl) ((H2.out rfl).2 _ _ _ _ _ _ _)
      · exact absurd (H1.out rfl) ((h2 rfl).2 _ _ _ _ _ _ _)
      · exact ⟨rfl, camOf_inj (H1.out rfl) (h1 rfl)⟩
    have HT := (HT.later hb2).new #[.int .i64 a, .int .i64 b, .int .i64 c, .int .i64 d, .bool q, .int .i64 f, .int .i64 g] 24
    clear hb2 h1 h2 H1 H2 HP1 HE1
    have c0 := (HT.box 1).c 0
    have c1 := (HT.box 1).c 1
    have c2 := (HT.box 1).c 2
    have c3 := (HT.box 1).c 3
    have c4 := (HT.box 1).c 4
    have c5 := (HT.box 1).c 5
    have c6 := (HT.box 1).c 6
    have d0 := (HT.box 0).c 0
    have d1 := (HT.box 0).c 1
    have d2 := (HT.box 0).c 2
    have d3 := (HT.box 0).c 3
    have d4 := (HT.box 0).c 4
    have d5 := (HT.box 0).c 5
    have d6 := (HT.box 0).c 6
    go_wp2_with fail
    refine (eqCamera_same _ _ _ _ _ _ _ _).mono ?_
    rintro e w3 ⟨rfl, hb3⟩
    have HT := HT.later hb3
    clear hb3 c0 d0 c1 d1 c2 d2 c3 d3 c4 d4 c5 d5 c6 d6
    cases k
    all_goals
      go_wp2_with fail
      go_ret
      exact ⟨rfl, HT.below⟩
  · have hbig' : decide ((1048576 : Int) < (a0.size : Int)) = true := decide_eq_true (by omega)
    go_enter Tryd.func5, Tryd.ntmps5
    go_wp2_with fail
    go_ret
    exact ⟨rfl, Below.refl _ _⟩

set_option maxRecDepth 100000 in
theorem contract (H : Type) (enc : TypeId × Value → H) (W : World) (base : Nat) (args : Array Value) (ds gs : List (DataW H)) (before : List MemPlace)
    (hval : ∀ (j : Nat) t v, Tryd.f5.params[j]? = some t → args[j]? = some v → Value.okWide Tryd.prog W .any base t v)
    (hW : DataW.Whole enc Tryd.prog Tryd.f5.params.toList Rows.fnExactParseCameraSpec.vars false W args.toList ds gs before) (hL : laidMetH Tryd.prog Rows.fnExactParseCameraRow.laid W) :
    Calls Tryd.prog 5 args W fun e W' => ∃ v, e = .returned v ∧ Rows.fnExactParseCameraSpec.post enc Tryd.prog Tryd.f5 false true false false W args v W' := by
  have hW' := hW
  obtain ⟨p, q, hA0, hV, rfl, hfz, hnd⟩ := hW
  have hA : DataW.TrodAll enc Tryd.prog W 0 (fun _ => true) true Tryd.f5.params.toList args.toList ds p := hA0
  rw [Tryd.params5] at hA hval
  obtain ⟨v0, vs0, d0, ds0, p0, q0, hargs, rfl, rfl, h0, r1000⟩ := trodAll_cons hA
  obtain ⟨rfl, rfl, rfl⟩ := trodAll_nil r1000
  obtain rfl : args = #[v0] := by cases args; simp_all
  obtain ⟨rfl, rfl⟩ := trodVars_none hV
  obtain ⟨a0, rfl, rfl, rfl, w0⟩ := open_string Tryd.underlying9 (hval 0 9 v0 rfl rfl) h0
  clear hA0
  refine (walk W a0 w0 (Lib.hid (pow_of _ (by kernel_rfl) hL)) (Lib.hid (errs_of _ (by kernel_rfl) (by kernel_rfl) hL))).mono fun e W' ⟨he, bel⟩ => ?_
  subst he
  exact ⟨_, rfl, _, _, _, [], _, [], hW', trodAll_mk1 (shut_bool Tryd.underlying4 _), (trodAll_cons_mk (shut_string Tryd.underlying9 w0) trodAll_mk0), rfl, bel.frame _, fun h => by cases h⟩

theorem laid_met (os : Os) : laidMet Tryd.prog Rows.fnExactParseCameraRow.laid ((laidWorldE os).forCall (fun _ _ => 0) ⟨#[], #[.string ByteArray.empty], []⟩).memory :=
  laidMet_of_run' 8 (by kernel_rfl) (by kernel_rfl)
theorem reads (os : Os) {H : Type} (enc : TypeId × Value → H) : ∃ d places, DataW.whole enc Tryd.prog ((laidWorldE os).forCall (fun _ _ => 0) ⟨#[], #[.string ByteArray.empty], []⟩).memory Tryd.f5.params.toList Rows.fnExactParseCameraSpec.vars false (#[.string ByteArray.empty] : Array Value).toList 8 = some (d, [], places) :=
  ⟨[.lit (.string [])], [], by kernel_rfl⟩
set_option maxRecDepth 100000 in
theorem lifted (os : Os) (started : os.Started) (H : Type) (enc : TypeId × Value → H) (F : Stop.Interp) :
    ReturnsInHanded {} Tryd.checked os 5 .any ((OpenSpec.ofChange Rows.fnExactParseCameraSpec).preRow enc Tryd.prog Tryd.f5 Rows.fnExactParseCameraRow.domain false Rows.fnExactParseCameraRow.laid) (((OpenSpec.ofChange Rows.fnExactParseCameraSpec).at F).post enc Tryd.prog Tryd.f5 false true false false) := by
  obtain ⟨d, places, hx⟩ := reads os enc
  refine returnsInHanded_of_row (C := Tryd.checked) (s := OpenSpec.ofChange Rows.fnExactParseCameraSpec) own started (by kernel_rfl) Tryd.func5
    (witness_row_atRef (enc := enc) (C := Tryd.checked) false (laidWorldE os) #[.string ByteArray.empty] rfl (by kernel_rfl) (by kernel_rfl) (by kernel_rfl)
      (OpenSpec.preRow_of_cond 8 hx (by kernel_rfl) (fun k hk => by cases hk) (by kernel_rfl) (laid_met os))) ?_
  intro W base args ds gs before hval hW _ _ _ hL _ _
  exact contract H enc W base args ds gs before hval hW hL
theorem said : Rows.FnExactParseCameraSaid :=
  OpenClaim.holds_of_cond 5 Tryd.f5 rfl rfl rfl rfl rfl rfl rfl ⟨rfl, rfl, rfl, rfl, rfl⟩ rfl rfl rfl rfl rfl (by kernel_rfl) Tryd.func5 (by kernel_rfl)
    (of_decide_eq_true (by kernel_rfl)) (by unfold Func.isWrapper; first | (rw [if_pos (by decide +kernel)]; kernel_rfl) | (rw [if_neg (by decide +kernel)]; exact ⟨rfl, rfl⟩))
    (fun os started H enc _ F => by rw [OpenClaim.pre_eq_preRow]; exact lifted os started H enc F)
theorem plain (f : FuncId) (fn : Func) (hf : Tryd.pinned.checked.prog.funcNamed "loop.example/g00809/laws.FnExactParseCamera" = some f) (hfn : Tryd.pinned.checked.prog.funcs[f]? = some fn) :
    true = Tryd.pinned.checked.prog.looks [] ∧ ∀ (j : Nat) t, fn.params[j]? = some t → Tryd.pinned.checked.prog.wantsStandIn t = false := by
  obtain rfl : f = 5 := Option.some.inj ((show Tryd.prog.funcNamed "loop.example/g00809/laws.FnExactParseCamera" = some 5 by kernel_rfl).symm.trans hf) |>.symm
  obtain rfl : fn = Tryd.f5 := (Option.some.inj (Tryd.func5.symm.trans hfn)).symm
  refine ⟨by kernel_rfl, fun j t ht => ?_⟩
  rw [Tryd.params5] at ht
  have hm := Array.mem_of_getElem? ht
  simp only [List.mem_toArray, List.mem_cons, List.not_mem_nil, or_false] at hm
  rcases hm with rfl
  · exact (show Tryd.prog.wantsStandIn 9 = false by kernel_rfl)
theorem proved : Rows.FnExactParseCameraCardSaid :=
  Claim7.holds_tied_plain_at .later [] _ _ _ _ said (fun _ h => by cases h) (by kernel_rfl) (fun _ h => by cases h) fnExactParseCamera_row_tie rfl ⟨rfl, rfl⟩ (by kernel_rfl) rfl plain (by kernel_rfl)
#print axioms proved
end Go.Proofs.YtlaghpcdaolofaaDoor.fnExactParseCamera
