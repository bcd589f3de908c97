/-
  Proved: the law FnVectors returns true for every input and its arguments read behind the call as they read before. Conditions: none of our own; those of the given row alone.
-/
import Derived.Test.YtjdafiijldfdaaaDoorRows
import Derived.Test.YtjdafiijldfdaaaDoorCards
import Derived.Test.YtjdafiijldfdaaaDoorTie
import Derived.WalkKit
import Derived.ProofKit
import Derived.OpenShut
import Derived.ShutString
import Derived.SliceStrings
import Derived.ChangeOld
import Derived.Below
import Derived.Deep.DeepHandedRow
import Derived.Lib.LaidTab
import Derived.Test.YtjdafiijldfdaaaDoorMem
import Derived.Test.YtjdafiijldfdaaaDoorInts
import Derived.Test.YtjdafiijldfdaaaDoorIntS
import Derived.Test.YtjdafiijldfdaaaDoorCur
import Derived.Test.YtjdafiijldfdaaaDoorFmt
import Derived.Test.YtjdafiijldfdaaaDoorFmts
import Derived.Test.YtjdafiijldfdaaaDoorParse
import Derived.Test.YtjdafiijldfdaaaDoorParses
import Derived.Test.YtjdafiijldfdaaaDoorRound
import Derived.Test.YtjdafiijldfdaaaDoorNumsRound
import Derived.Test.YtjdafiijldfdaaaDoorDoor
import Derived.Test.YtjdafiijldfdaaaDoorDoorErr
import Derived.Test.YtjdafiijldfdaaaDoorVbox
import Derived.Test.YtjdafiijldfdaaaDoorVec
import Derived.Test.YtjdafiijldfdaaaDoorVlaw
import Derived.Test.YtjdafiijldfdaaaDoorVFmt
import Derived.Test.YtjdafiijldfdaaaDoorVPar
import Derived.Test.YtjdafiijldfdaaaDoorVDraw
import Derived.Test.YtjdafiijldfdaaaDoorVSmall
import Derived.Handy
import Derived.Deep.RegionHeld3
namespace Go.Proofs.YtjdafiijldfdaaaDoor.fnVectors
open Go.ChangeShapes Go.WideShapes Go.ChangeAt Go.RowKit
open Go.ChangeMaps (open_string shut_string)
set_option linter.unusedVariables false

theorem own : ownKnob Tryd.prog.godebug = none := by kernel_rfl
theorem laidOut : laidOutB Tryd.prog = true := by kernel_rfl
set_option maxRecDepth 100000 in
set_option maxHeartbeats 20000000 in
theorem walk (w : World) (a0 : Option Addr) (c0 : Nat) (x0 : List Int) (r0 : Row (Value.int .u8) w w.heap.size a0 x0) (m0 : x0.length ≤ maxLen) (w0 : ∀ x ∈ x0, (Lit.int .u8 x).wf = true) (HP : Hid (Pow w)) (HE : Hid (Errs w)) :
    Calls Tryd.prog 5 #[.slice a0 x0.length c0] w fun e w' => e = .returned (.bool true) ∧ Below w.heap.size w w' := by
  have H8 : Hid (∀ x ∈ x0, 0 ≤ x ∧ x ≤ 255) := Lib.hid (fun x hx => bounds_u8 (w0 x hx))
  have HR : Hid (Row U8 w w.heap.size a0 x0) := Lib.hid r0
  clear w0 r0
  by_cases hbig : x0.length ≤ 1048576
  · go_enter Tryd.func5, Tryd.ntmps5
    go_wp2_with fail
    refine (makeVec_any _ _ x0 _ _ HR.out H8.out hbig (by omega) (by omega)).mono ?_
    rintro e w1 ⟨x, y, z, hS, rfl, hb1⟩
    have VA := Vbox.new w1 x y z 25
    have HW := hb1.alloc hb1.size (.cells #[.int .i64 x, .int .i64 y, .int .i64 z] 25)
    have HR1 := Lib.hid (HR.out.later HW)
    have HSA := Lib.hid hS
    clear hb1 hS HR
    go_wp2_with fail
    refine (makeVec_any _ _ x0 _ _ HR1.out H8.out hbig (by omega) (by omega)).mono ?_
    rintro e w2 ⟨p, q, r, hS, rfl, hb2⟩
    have VA := (VA.later hb2).alloc (.cells #[.int .i64 p, .int .i64 q, .int .i64 r] 25)
    have VB := Vbox.new w2 p q r 25
    have HW := (bcall HW hb2 HW.size).alloc (bcall HW hb2 HW.size).size (.cells #[.int .i64 p, .int .i64 q, .int .i64 r] 25)
    have HSB := Lib.hid hS
    clear hb2 hS HR1 H8
    obtain ⟨n0, n1, n2, _, _, _⟩ := id VA
    go_wp2_with fail
    refine (formatVec_any x y z _ (HP.out.later HW)).mono ?_
    rintro e w3 ⟨rfl, hb3⟩
    have VA := VA.later hb3
    have VB := VB.later hb3
    have HW := bcall HW hb3 HW.size
    have HOF := Lib.hid (vecOf_fmt HSA.out)
    have HSZ := Lib.hid (fmtV_size HSA.out)
    obtain ⟨fs, hfs⟩ : ∃ fs, fs = fmtV x y z := ⟨_, rfl⟩
    rw [← hfs] at HOF HSZ ⊢
    clear hfs hb3 n0 n1 n2
    go_wp2_with fail
    refine (parseVec_any fs _ HSZ.out (HP.out.later HW) (HE.out.later HW)).mono ?_
    rintro e w4 ⟨b, x', y', z', rfl, h1, h2, hb4⟩
    obtain rfl : b = true := by
      cases b
      · exact absurd HOF.out ((h2 rfl).2 _ _ _)
      · rfl
    obtain ⟨rfl, rfl, rfl⟩ : x = x' ∧ y = y' ∧ z = z' := vecOf_inj HOF.out (h1 rfl)
    have VA := (VA.later hb4).alloc (.cells #[.int .i64 x, .int .i64 y, .int .i64 z] 25)
    have VB := (VB.later hb4).alloc (.cells #[.int .i64 x, .int .i64 y, .int .i64 z] 25)
    have VC := Vbox.new w4 x y z 25
    have HW := (bcall HW hb4 HW.size).alloc (bcall HW hb4 HW.size).size (.cells #[.int .i64 x, .int .i64 y, .int .i64 z] 25)
    clear hb4 h1 h2 HOF HSZ HP HE
    obtain ⟨n0, n1, n2, _, _, _⟩ := id VA
    obtain ⟨o0, o1, o2, _, _, _⟩ := id VB
    go_wp2_with fail
    refine (add_ab _ HSA.out HSB.out).mono ?_
    rintro e w5 ⟨rfl, hb5⟩
    have HT : Four w (w5.alloc (.cells #[.int .i64 (x + p), .int .i64 (y + q), .int .i64 (z + r)] 25)) w1.heap.size w2.heap.size w4.heap.size w5.heap.size x y z p q r :=
      ⟨(VA.later hb5).alloc _, (VB.later hb5).alloc _, (VC.later hb5).alloc _, Vbox.new w5 _ _ _ _, (bcall HW hb5 HW.size).alloc (bcall HW hb5 HW.size).size _⟩
    clear hb5 VA VB VC HW n0 n1 n2 o0 o1 o2
    go_wp2_with fail
    generalize w5.alloc (.cells #[.int .i64 (x + p), .int .i64 (y + q), .int .i64 (z + r)] 25) = W at HT ⊢
    generalize w1.heap.size = i at HT ⊢
    generalize w2.heap.size = j at HT ⊢
    generalize w4.heap.size = k at HT ⊢
    generalize w5.heap.size = l at HT ⊢
    have e1 := veq_self x y z
    have e2 := veq_self p q r
    have e3 := veq_self (x + p) (y + q) (z + r)
    have e4 := veq_self' x y z
    have e5 := veq_self' p q r
    have e6 := veq_self' (x + p) (y + q) (z + r)
    have e7 := dotP_beq x y z p q r
    go_region_held3 (fun w' => w'.cell? ⟨i, 0, none⟩ = some (.int .i64 (x)) ∧ w'.cell? ⟨i, 1, none⟩ = some (.int .i64 (y)) ∧ w'.cell? ⟨i, 2, none⟩ = some (.int .i64 (z)) ∧ w'.cell? ⟨j, 0, none⟩ = some (.int .i64 (p)) ∧ w'.cell? ⟨j, 1, none⟩ = some (.int .i64 (q)) ∧ w'.cell? ⟨j, 2, none⟩ = some (.int .i64 (r)) ∧ w'.cell? ⟨k, 0, none⟩ = some (.int .i64 (x)) ∧ w'.cell? ⟨k, 1, none⟩ = some (.int .i64 (y)) ∧ w'.cell? ⟨k, 2, none⟩ = some (.int .i64 (z)) ∧ w'.cell? ⟨l, 0, none⟩ = some (.int .i64 (x + p)) ∧ w'.cell? ⟨l, 1, none⟩ = some (.int .i64 (y + q)) ∧ w'.cell? ⟨l, 2, none⟩ = some (.int .i64 (z + r)))
      (first | (with_reducible exact HT.cells) | (with_reducible exact HT.drew.cells))
      (first | (go_at_call 13; (first | (with_reducible refine (add_ba _ HSA.out HSB.out).mono ?_) | (with_reducible refine (add_mm _ HSA.out HSB.out).mono ?_)); rintro e w1 ⟨rfl, hb1⟩; (first | (have HT := HT.later hb1) | (have HT := HT.drew.later hb1))) | (go_at_call 14; (first | (with_reducible refine (sub_ab _ HSA.out HSB.out).mono ?_)); rintro e w1 ⟨rfl, hb1⟩; (first | (have HT := HT.later hb1) | (have HT := HT.drew.later hb1))) | (go_at_call 15; (first | (with_reducible refine (dot_ab _).mono ?_)); rintro e w1 ⟨rfl, hb1⟩; (first | (have HT := HT.later hb1) | (have HT := HT.drew.later hb1))) | (go_at_call 16; (first | (with_reducible refine (lerp_0 _ HSA.out).mono ?_) | (with_reducible refine (lerp_5 _ HSB.out).mono ?_)); rintro e w1 ⟨rfl, hb1⟩; (first | (have HT := HT.later hb1) | (have HT := HT.drew.later hb1))) | (go_at_call 17; (first | (with_reducible refine (min_ab _ HSA.out HSB.out).mono ?_)); rintro e w1 ⟨rfl, hb1⟩; (first | (have HT := HT.later hb1) | (have HT := HT.drew.later hb1))) | (go_at_call 18; (first | (with_reducible refine (max_ab _ HSA.out HSB.out).mono ?_)); rintro e w1 ⟨rfl, hb1⟩; (first | (have HT := HT.later hb1) | (have HT := HT.drew.later hb1))) | (go_at_call 19; (first | (with_reducible refine (scale_1 _ HSA.out).mono ?_)); rintro e w1 ⟨rfl, hb1⟩; (first | (have HT := HT.later hb1) | (have HT := HT.drew.later hb1))) )
    clear e1 e2 e3 e4 e5 e6 e7
    go_wp2_with fail
    go_ret
    exact ⟨rfl, HT.2.2.2.2⟩
  · go_enter Tryd.func5, Tryd.ntmps5
    go_wp2_with fail
    go_ret
    exact ⟨rfl, Below.refl _ _⟩

set_option maxRecDepth 100000 in
theorem contract (H : Type) (enc : TypeId × Value → H) (W : World) (base : Nat) (args : Array Value) (ds gs : List (DataW H)) (before : List MemPlace)
    (hval : ∀ (j : Nat) t v, Tryd.f5.params[j]? = some t → args[j]? = some v → Value.okWide Tryd.prog W .any base t v)
    (hW : DataW.Whole enc Tryd.prog Tryd.f5.params.toList Rows.fnVectorsSpec.vars false W args.toList ds gs before) (hL : laidMetH Tryd.prog Rows.fnVectorsRow.laid W) :
    Calls Tryd.prog 5 args W fun e W' => ∃ v, e = .returned v ∧ Rows.fnVectorsSpec.post enc Tryd.prog Tryd.f5 false true false false W args v W' := by
  have hW' := hW
  obtain ⟨p, q, hA0, hV, rfl, hfz, hnd⟩ := hW
  have hA : DataW.TrodAll enc Tryd.prog W 0 (fun _ => true) true Tryd.f5.params.toList args.toList ds p := hA0
  rw [Tryd.params5] at hA hval
  obtain ⟨v0, vs0, d0, ds0, p0, q0, hargs, rfl, rfl, h0, r1000⟩ := trodAll_cons hA
  obtain ⟨rfl, rfl, rfl⟩ := trodAll_nil r1000
  obtain rfl : args = #[v0] := by cases args; simp_all
  obtain ⟨rfl, rfl⟩ := trodVars_none hV
  obtain ⟨a0, len0, cap0, rfl⟩ := okWide_slice Tryd.underlying32 (hval 0 32 v0 rfl rfl)
  have k0 := h0
  have lt0 : ∀ x ∈ p0, x.block < W.heap.size := by obtain ⟨m, hm⟩ := k0; exact DataW.trod_lt m _ _ _ hm
  obtain ⟨x0, rfl, r0, m0, w0⟩ : ∃ xs : List Int, len0 = xs.length ∧ Row (Value.int .u8) W W.heap.size a0 xs ∧ xs.length ≤ maxLen ∧ ∀ x ∈ xs, (Lit.int .u8 x).wf = true := by
    obtain ⟨fuel, hf⟩ := h0
    rcases open_ints Tryd.underlying32 Tryd.underlying5 (by kernel_rfl) hf with ⟨hcs, _⟩ | ⟨x, l, c, zs, hcs, _, hl, hm, hz, _, hcell, hwz⟩
    · simp [Value.cells] at hcs
      obtain ⟨rfl, rfl, rfl⟩ := hcs
      exact ⟨[], rfl, Row.nil, Nat.zero_le _, fun x hx => by cases hx⟩
    · simp [Value.cells] at hcs
      obtain ⟨rfl, rfl, rfl⟩ := hcs
      exact row_of_cells (d := (0 : Int)) hl hm (by simpa using hz) hcell hwz
  clear hA0
  refine (walk W a0 cap0 x0 r0 m0 w0 (Lib.hid (pow_of _ (by kernel_rfl) hL)) (Lib.hid (errs_of _ (by kernel_rfl) (by kernel_rfl) hL))).mono fun e W' ⟨he, bel⟩ => ?_
  subst he
  exact ⟨_, rfl, _, _, _, [], _, [], hW', trodAll_mk1 (shut_bool Tryd.underlying4 _), (trodAll_cons_mk (Below.trod laidOut (by kernel_rfl) (of_decide_eq_true (by kernel_rfl)) k0 bel lt0) trodAll_mk0), rfl, bel.frame _, fun h => by cases h⟩

theorem laid_met (os : Os) : laidMet Tryd.prog Rows.fnVectorsRow.laid ((laidWorldE os).forCall (fun _ _ => 0) ⟨#[], #[.slice none 0 0], []⟩).memory :=
  laidMet_of_run' 8 (by kernel_rfl) (by kernel_rfl)
theorem reads (os : Os) {H : Type} (enc : TypeId × Value → H) : ∃ d places, DataW.whole enc Tryd.prog ((laidWorldE os).forCall (fun _ _ => 0) ⟨#[], #[.slice none 0 0], []⟩).memory Tryd.f5.params.toList Rows.fnVectorsSpec.vars false (#[.slice none 0 0] : Array Value).toList 8 = some (d, [], places) :=
  ⟨[.nil], [], by kernel_rfl⟩
set_option maxRecDepth 100000 in
theorem lifted (os : Os) (started : os.Started) (H : Type) (enc : TypeId × Value → H) (F : Stop.Interp) :
    ReturnsInHanded {} Tryd.checked os 5 .any ((OpenSpec.ofChange Rows.fnVectorsSpec).preRow enc Tryd.prog Tryd.f5 Rows.fnVectorsRow.domain false Rows.fnVectorsRow.laid) (((OpenSpec.ofChange Rows.fnVectorsSpec).at F).post enc Tryd.prog Tryd.f5 false true false false) := by
  obtain ⟨d, places, hx⟩ := reads os enc
  refine returnsInHanded_of_row (C := Tryd.checked) (s := OpenSpec.ofChange Rows.fnVectorsSpec) own started (by kernel_rfl) Tryd.func5
    (witness_row_atRef (enc := enc) (C := Tryd.checked) false (laidWorldE os) #[.slice none 0 0] rfl (by kernel_rfl) (by kernel_rfl) (by kernel_rfl)
      (OpenSpec.preRow_of_cond 8 hx (by kernel_rfl) (fun k hk => by cases hk) (by kernel_rfl) (laid_met os))) ?_
  intro W base args ds gs before hval hW _ _ _ hL _ _
  exact contract H enc W base args ds gs before hval hW hL
theorem said : Rows.FnVectorsSaid :=
  OpenClaim.holds_of_cond 5 Tryd.f5 rfl rfl rfl rfl rfl rfl rfl ⟨rfl, rfl, rfl, rfl, rfl⟩ rfl rfl rfl rfl rfl (by kernel_rfl) Tryd.func5 (by kernel_rfl)
    (of_decide_eq_true (by kernel_rfl)) (by unfold Func.isWrapper; first | (rw [if_pos (by decide +kernel)]; kernel_rfl) | (rw [if_neg (by decide +kernel)]; exact ⟨rfl, rfl⟩))
    (fun os started H enc _ F => by rw [OpenClaim.pre_eq_preRow]; exact lifted os started H enc F)
theorem plain (f : FuncId) (fn : Func) (hf : Tryd.pinned.checked.prog.funcNamed "loop.example/g00809/laws.FnVectors" = some f) (hfn : Tryd.pinned.checked.prog.funcs[f]? = some fn) :
    true = Tryd.pinned.checked.prog.looks [] ∧ ∀ (j : Nat) t, fn.params[j]? = some t → Tryd.pinned.checked.prog.wantsStandIn t = false := by
  obtain rfl : f = 5 := Option.some.inj ((show Tryd.prog.funcNamed "loop.example/g00809/laws.FnVectors" = some 5 by kernel_rfl).symm.trans hf) |>.symm
  obtain rfl : fn = Tryd.f5 := (Option.some.inj (Tryd.func5.symm.trans hfn)).symm
  refine ⟨by kernel_rfl, fun j t ht => ?_⟩
  rw [Tryd.params5] at ht
  have hm := Array.mem_of_getElem? ht
  simp only [List.mem_toArray, List.mem_cons, List.not_mem_nil, or_false] at hm
  rcases hm with rfl
  · exact (show Tryd.prog.wantsStandIn 32 = false by kernel_rfl)
theorem proved : Rows.FnVectorsCardSaid :=
  Claim7.holds_tied_plain_at .later [] _ _ _ _ said (fun _ h => by cases h) (by kernel_rfl) (fun _ h => by cases h) fnVectors_row_tie rfl ⟨rfl, rfl⟩ (by kernel_rfl) rfl plain (by kernel_rfl)
#print axioms proved
end Go.Proofs.YtjdafiijldfdaaaDoor.fnVectors
