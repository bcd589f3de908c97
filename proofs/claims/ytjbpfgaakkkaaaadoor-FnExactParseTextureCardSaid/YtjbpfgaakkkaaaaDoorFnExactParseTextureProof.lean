/-
  Proved: the law FnExactParseTexture returns true for every input and its arguments read behind the call as they read before. Conditions: none of our own; those of the given row alone.
-/
import Derived.Test.YtjbpfgaakkkaaaaDoorRows
import Derived.Test.YtjbpfgaakkkaaaaDoorCards
import Derived.Test.YtjbpfgaakkkaaaaDoorTie
import Derived.WalkKit
import Derived.ProofKit
import Derived.OpenShut
import Derived.ShutString
import Derived.SliceStrings
import Derived.ChangeOld
import Derived.Below
import Derived.Deep.DeepHandedRow
import Derived.Lib.LaidTab
import Derived.Test.YtjbpfgaakkkaaaaDoorMem
import Derived.Test.YtjbpfgaakkkaaaaDoorInts
import Derived.Test.YtjbpfgaakkkaaaaDoorFlat
import Derived.Test.YtjbpfgaakkkaaaaDoorVbox
import Derived.Test.YtjbpfgaakkkaaaaDoorHeld
import Derived.Test.YtjbpfgaakkkaaaaDoorRowC
import Derived.Test.YtjbpfgaakkkaaaaDoorKS
import Derived.Test.YtjbpfgaakkkaaaaDoorStrS
import Derived.Test.YtjbpfgaakkkaaaaDoorIntS
import Derived.Test.YtjbpfgaakkkaaaaDoorSS
import Derived.Test.YtjbpfgaakkkaaaaDoorVi
import Derived.Test.YtjbpfgaakkkaaaaDoorVa
import Derived.Test.YtjbpfgaakkkaaaaDoorVb
import Derived.Test.YtjbpfgaakkkaaaaDoorVc
import Derived.Test.YtjbpfgaakkkaaaaDoorVd
import Derived.Test.YtjbpfgaakkkaaaaDoorVe
import Derived.Test.YtjbpfgaakkkaaaaDoorVf
import Derived.Test.YtjbpfgaakkkaaaaDoorVh
import Derived.Test.YtjbpfgaakkkaaaaDoorNumP
import Derived.Test.YtjbpfgaakkkaaaaDoorIn
import Derived.Test.YtjbpfgaakkkaaaaDoorFmt
import Derived.Test.YtjbpfgaakkkaaaaDoorBuilder
import Derived.Test.YtjbpfgaakkkaaaaDoorFmts
import Derived.Test.YtjbpfgaakkkaaaaDoorSplit
import Derived.Test.YtjbpfgaakkkaaaaDoorParse
import Derived.Test.YtjbpfgaakkkaaaaDoorParses
import Derived.Test.YtjbpfgaakkkaaaaDoorRound
import Derived.Test.YtjbpfgaakkkaaaaDoorNumsRound
import Derived.Test.YtjbpfgaakkkaaaaDoorDoor
import Derived.Test.YtjbpfgaakkkaaaaDoorDoorErr
import Derived.Test.YtjbpfgaakkkaaaaDoorVj
import Derived.Test.YtjbpfgaakkkaaaaDoorVk
import Derived.Test.YtjbpfgaakkkaaaaDoorVr
import Derived.Deep.RegionHeld3
import Derived.Deep.DeepCutAuto
import Derived.Handy
namespace Go.Proofs.YtjbpfgaakkkaaaaDoor.fnExactParseTexture
open Go.ChangeShapes Go.WideShapes Go.ChangeAt Go.RowKit
open Go.ChangeMaps (open_string shut_string)
set_option linter.unusedVariables false

theorem own : ownKnob Tryd.prog.godebug = none := by kernel_rfl
theorem laidOut : laidOutB Tryd.prog = true := by kernel_rfl
set_option maxRecDepth 100000 in
set_option maxHeartbeats 8000000 in
theorem walk (w : World) (a0 : ByteArray) (w0 : a0.size ≤ maxLen) (HP : Hid (Pow w)) (HE : Hid (Errs w)) :
    Calls Tryd.prog 5 #[.string a0] w fun e w' => e = .returned (.bool true) ∧ Below w.heap.size w w' := by
  by_cases hbig : a0.size ≤ 1048576
  · have HT := Held.nil w
    have hbig' : decide ((1048576 : Int) < (a0.size : Int)) = false := decide_eq_false (by omega)
    obtain ⟨LL, yy, ff, hyl, HRES⟩ := txRes_out a0
    have HSV : ∀ W, Calls Tryd.prog 17 #[.string a0] W (TxOut LL yy ff W) := fun W => (sParseTx_any a0 W hbig).mono fun e w' h => HRES W e w' h
    have HIV : ∀ W, Pow W → Errs W → Calls Tryd.prog 7 #[.string a0] W (TxOut LL yy ff W) := fun W h1 h2 => (parseTx_any a0 W hbig h1 h2).mono fun e w' h => HRES W e w' h
    have HLEN := Lib.hid hyl
    clear hyl HRES
    go_enter Tryd.func5, Tryd.ntmps5
    go_wp2_with fail
    refine (HSV _).mono ?_
    rintro e w3 ⟨A3, c3, rfl, ho3, hb3⟩
    have HT := HT.later hb3
    have hlo : w.heap.size ≤ w3.heap.size := hb3.size
    have R0 : Row I64 w3 w3.heap.size A3 yy := Row.of_own ho3
    have HT := HT.new #[.int .i64 LL, .slice A3 yy.length c3] 25
    have R0 := R0.alloc (Nat.le_refl _) (.cells #[.int .i64 LL, .slice A3 yy.length c3] 25)
    clear hb3 ho3
    go_wp2_with fail
    refine (HIV _ (HP.out.later HT.below) (HE.out.later HT.below)).mono ?_
    rintro e w5 ⟨A5, c5, rfl, ho5, hb5⟩
    rw [World.size_alloc] at ho5
    have hs5 : w3.heap.size + 1 ≤ w5.heap.size := by have := hb5.size; simpa using this
    have HU : Hid (∀ q, Value.ownBlock (.slice A5 yy.length c5) = some q → q < w5.heap.size) := Lib.hid fun q h => (ho5.lt q h).2
    have HT := (HT.later hb5).new #[.int .i64 LL, .slice A5 yy.length c5] 25
    have hbx : Below w5.heap.size w5 (w5.alloc (.cells #[.int .i64 LL, .slice A5 yy.length c5] 25)) := by go_grown
    have HO := own_keep' ho5 hbx
    have R0 := (R0.below (hb5.mono (by simp))).alloc (by omega) (.cells #[.int .i64 LL, .slice A5 yy.length c5] 25)
    clear hb5 ho5 hbx
    have k00 := (HT.box 0).c 0
    have k01 := (HT.box 0).c 1
    have k10 := (HT.box 1).c 0
    have k11 := (HT.box 1).c 1
    go_wp2_with fail
    refine (eqTex_same LL _ _ _ _ yy _ (Row.of_own HO) (R0.more (by simp; omega)) (by have := HLEN.out; omega)).mono ?_
    rintro e w6 ⟨rfl, hb6⟩
    have HT := HT.later hb6
    have HR := Lib.hid (R0.below (hb6.mono (by simp; omega)))
    have HO := Lib.hid (own_keep' HO hb6)
    have hs6 : w5.heap.size + 1 ≤ w6.heap.size := by have := hb6.size; simpa using this
    obtain ⟨G0, hG0⟩ : ∃ k, k = w5.heap.size := ⟨_, rfl⟩
    rw [← hG0] at HT HU hs5 hs6 ⊢
    obtain ⟨W0, hW0⟩ : ∃ k, k = w3.heap.size := ⟨_, rfl⟩
    rw [← hW0] at HT HR HO hlo hs5 ⊢
    clear hb6 R0 k00 k01 k10 k11 hG0 hW0
    have k00 := (HT.box 0).c 0
    have k01 := (HT.box 0).c 1
    have hmm := markTex_turn LL A5 c5 (W0 + 1) G0 1 yy _ HO.out HU.out (by have := HLEN.out; omega)
    obtain ⟨mm, hm⟩ : ∃ mm : Nat, mm = 1 + yy.length := ⟨_, rfl⟩
    rw [← hm] at hmm
    go_wp2_with fail
    refine hmm.mono ?_
    rintro e w10 ⟨rfl, ho10, ht10⟩
    have HT := HT.turnT ht10 (fun k h => by omega) (fun p hp h => by simp only [List.mem_cons, List.not_mem_nil, or_false] at hp; rcases hp with rfl | rfl <;> simp at h <;> omega)
    have HR := Lib.hid (HR.out.keep fun p hp => World.cell?_of_block (ht10.block (by omega) (by omega)))
    have HM : Hid (Row I64 w10 w10.heap.size A5 (cntQ 1 yy.length)) := Lib.hid (Row.of_own ho10)
    have hs10 := Nat.le_trans hs6 ht10.size
    clear k00 k01 ht10 hmm hs6 HO ho10 HU
    have k00 := (HT.box 0).c 0
    have k01 := (HT.box 0).c 1
    have hmd : ¬ ((mm : Nat) : Int) < 0 := by omega
    have hm2 : mm ≤ 1048577 := by have := HLEN.out; omega
    have HHE : ∀ W, Row I64 W W.heap.size A5 (cntQ 1 yy.length) → Calls Tryd.prog 19 #[txv LL A5 yy.length c5, .int .i64 1] W fun e w' => e = .returned (.int .i64 (mm : Int)) ∧ Below W.heap.size W w' := fun W h => by
      have h := heldTex_any LL A5 c5 1 yy.length W h (by have := HLEN.out; omega)
      rw [← hm] at h
      exact h
    clear hm
    go_wp2_with fail
    refine (HHE _ HM.out).mono ?_
    rintro e w11 ⟨rfl, hb11⟩
    have HT := HT.later hb11
    have HR := Lib.hid (HR.out.below (hb11.mono (by omega)))
    have HM := Lib.hid (HM.out.later hb11)
    have hs11 := Nat.le_trans hs10 hb11.size
    clear k00 k01 hb11 hs10
    go_wp2_with fail
    refine (HIV _ (HP.out.later HT.below) (HE.out.later HT.below)).mono ?_
    rintro e w13 ⟨A8, c8, rfl, ho13, hb13⟩
    have hbx : Below w13.heap.size w13 (w13.alloc (.cells #[.int .i64 LL, .slice A8 yy.length c8] 25)) := by go_grown
    have HT := (HT.later hb13).new #[.int .i64 LL, .slice A8 yy.length c8] 25
    have HR := Lib.hid ((HR.out.below (hb13.mono (by omega))).below (hbx.mono (by have := hb13.size; omega)))
    have HM := Lib.hid ((HM.out.later hb13).later hbx)
    have HO := Lib.hid (own_keep' ho13 hbx)
    have hs13 : G0 + 1 ≤ w13.heap.size := Nat.le_trans hs11 hb13.size
    clear hb13 hs11 ho13 hbx
    have k00 := (HT.box 0).c 0
    have k01 := (HT.box 0).c 1
    have k20 := (HT.box 2).c 0
    have k21 := (HT.box 2).c 1
    go_wp2_with fail
    refine (eqTex_same LL _ _ _ _ yy _ (Row.of_own HO.out) (HR.out.more (by simp; omega)) (by have := HLEN.out; omega)).mono ?_
    rintro e w14 ⟨rfl, hb14⟩
    have HT := HT.later hb14
    have HM := Lib.hid (HM.out.later hb14)
    clear k00 k01 k20 k21 hb14 HO HR
    have k10 := (HT.box 1).c 0
    have k11 := (HT.box 1).c 1
    go_wp2_with fail
    refine (HHE _ HM.out).mono ?_
    rintro e w15 ⟨rfl, hb15⟩
    have HT := HT.later hb15
    clear k10 k11 hb15 HM HHE
    go_wp2_with fail
    go_ret
    exact ⟨rfl, HT.below⟩
  · have hbig' : decide ((1048576 : Int) < (a0.size : Int)) = true := decide_eq_true (by omega)
    go_enter Tryd.func5, Tryd.ntmps5
    go_wp2_with fail
    go_ret
    exact ⟨rfl, Below.refl _ _⟩

set_option maxRecDepth 100000 in
theorem contract (H : Type) (enc : TypeId × Value → H) (W : World) (base : Nat) (args : Array Value) (ds gs : List (DataW H)) (before : List MemPlace)
    (hval : ∀ (j : Nat) t v, Tryd.f5.params[j]? = some t → args[j]? = some v → Value.okWide Tryd.prog W .any base t v)
    (hW : DataW.Whole enc Tryd.prog Tryd.f5.params.toList Rows.fnExactParseTextureSpec.vars false W args.toList ds gs before) (hL : laidMetH Tryd.prog Rows.fnExactParseTextureRow.laid W) :
    Calls Tryd.prog 5 args W fun e W' => ∃ v, e = .returned v ∧ Rows.fnExactParseTextureSpec.post enc Tryd.prog Tryd.f5 false true false false W args v W' := by
  have hW' := hW
  obtain ⟨p, q, hA0, hV, rfl, hfz, hnd⟩ := hW
  have hA : DataW.TrodAll enc Tryd.prog W 0 (fun _ => true) true Tryd.f5.params.toList args.toList ds p := hA0
  rw [Tryd.params5] at hA hval
  obtain ⟨v0, vs0, d0, ds0, p0, q0, hargs, rfl, rfl, h0, r1000⟩ := trodAll_cons hA
  obtain ⟨rfl, rfl, rfl⟩ := trodAll_nil r1000
  obtain rfl : args = #[v0] := by cases args; simp_all
  obtain ⟨rfl, rfl⟩ := trodVars_none hV
  obtain ⟨a0, rfl, rfl, rfl, w0⟩ := open_string Tryd.underlying9 (hval 0 9 v0 rfl rfl) h0
  clear hA0
  refine (walk W a0 w0 (Lib.hid (pow_of _ (by kernel_rfl) hL)) (Lib.hid (errs_of _ (by kernel_rfl) (by kernel_rfl) hL))).mono fun e W' ⟨he, bel⟩ => ?_
  subst he
  exact ⟨_, rfl, _, _, _, [], _, [], hW', trodAll_mk1 (shut_bool Tryd.underlying4 _), (trodAll_cons_mk (shut_string Tryd.underlying9 w0) trodAll_mk0), rfl, bel.frame _, fun h => by cases h⟩

theorem laid_met (os : Os) : laidMet Tryd.prog Rows.fnExactParseTextureRow.laid ((laidWorldE os).forCall (fun _ _ => 0) ⟨#[], #[.string ByteArray.empty], []⟩).memory :=
  laidMet_of_run' 8 (by kernel_rfl) (by kernel_rfl)
theorem reads (os : Os) {H : Type} (enc : TypeId × Value → H) : ∃ d places, DataW.whole enc Tryd.prog ((laidWorldE os).forCall (fun _ _ => 0) ⟨#[], #[.string ByteArray.empty], []⟩).memory Tryd.f5.params.toList Rows.fnExactParseTextureSpec.vars false (#[.string ByteArray.empty] : Array Value).toList 8 = some (d, [], places) :=
  ⟨[.lit (.string [])], [], by kernel_rfl⟩
set_option maxRecDepth 100000 in
theorem lifted (os : Os) (started : os.Started) (H : Type) (enc : TypeId × Value → H) (F : Stop.Interp) :
    ReturnsInHanded {} Tryd.checked os 5 .any ((OpenSpec.ofChange Rows.fnExactParseTextureSpec).preRow enc Tryd.prog Tryd.f5 Rows.fnExactParseTextureRow.domain false Rows.fnExactParseTextureRow.laid) (((OpenSpec.ofChange Rows.fnExactParseTextureSpec).at F).post enc Tryd.prog Tryd.f5 false true false false) := by
  obtain ⟨d, places, hx⟩ := reads os enc
  refine returnsInHanded_of_row (C := Tryd.checked) (s := OpenSpec.ofChange Rows.fnExactParseTextureSpec) own started (by kernel_rfl) Tryd.func5
    (witness_row_atRef (enc := enc) (C := Tryd.checked) false (laidWorldE os) #[.string ByteArray.empty] rfl (by kernel_rfl) (by kernel_rfl) (by kernel_rfl)
      (OpenSpec.preRow_of_cond 8 hx (by kernel_rfl) (fun k hk => by cases hk) (by kernel_rfl) (laid_met os))) ?_
  intro W base args ds gs before hval hW _ _ _ hL _ _
  exact contract H enc W base args ds gs before hval hW hL
theorem said : Rows.FnExactParseTextureSaid :=
  OpenClaim.holds_of_cond 5 Tryd.f5 rfl rfl rfl rfl rfl rfl rfl ⟨rfl, rfl, rfl, rfl, rfl⟩ rfl rfl rfl rfl rfl (by kernel_rfl) Tryd.func5 (by kernel_rfl)
    (of_decide_eq_true (by kernel_rfl)) (by unfold Func.isWrapper; first | (rw [if_pos (by decide +kernel)]; kernel_rfl) | (rw [if_neg (by decide +kernel)]; exact ⟨rfl, rfl⟩))
    (fun os started H enc _ F => by rw [OpenClaim.pre_eq_preRow]; exact lifted os started H enc F)
theorem plain (f : FuncId) (fn : Func) (hf : Tryd.pinned.checked.prog.funcNamed "loop.example/g00809/laws.FnExactParseTexture" = some f) (hfn : Tryd.pinned.checked.prog.funcs[f]? = some fn) :
    true = Tryd.pinned.checked.prog.looks [] ∧ ∀ (j : Nat) t, fn.params[j]? = some t → Tryd.pinned.checked.prog.wantsStandIn t = false := by
  obtain rfl : f = 5 := Option.some.inj ((show Tryd.prog.funcNamed "loop.example/g00809/laws.FnExactParseTexture" = some 5 by kernel_rfl).symm.trans hf) |>.symm
  obtain rfl : fn = Tryd.f5 := (Option.some.inj (Tryd.func5.symm.trans hfn)).symm
  refine ⟨by kernel_rfl, fun j t ht => ?_⟩
  rw [Tryd.params5] at ht
  have hm := Array.mem_of_getElem? ht
  simp only [List.mem_toArray, List.mem_cons, List.not_mem_nil, or_false] at hm
  rcases hm with rfl
  · exact (show Tryd.prog.wantsStandIn 9 = false by kernel_rfl)
theorem proved : Rows.FnExactParseTextureCardSaid :=
  Claim7.holds_tied_plain_at .later [] _ _ _ _ said (fun _ h => by cases h) (by kernel_rfl) (fun _ h => by cases h) fnExactParseTexture_row_tie rfl ⟨rfl, rfl⟩ (by kernel_rfl) rfl plain (by kernel_rfl)
#print axioms proved
end Go.Proofs.YtjbpfgaakkkaaaaDoor.fnExactParseTexture
