/-
  Proved: the law FnExactParseInts returns true for every input and its arguments read behind the call as they read before. Conditions: none of our own; those of the given row alone.
-/
import Derived.Test.YtnjncihnhjaddaaDoorRows
import Derived.Test.YtnjncihnhjaddaaDoorCards
import Derived.Test.YtnjncihnhjaddaaDoorTie
import Derived.WalkKit
import Derived.ProofKit
import Derived.OpenShut
import Derived.ShutString
import Derived.SliceStrings
import Derived.ChangeOld
import Derived.Below
import Derived.Deep.DeepHandedRow
import Derived.Lib.LaidTab
import Derived.Test.YtnjncihnhjaddaaDoorMem
import Derived.Test.YtnjncihnhjaddaaDoorInts
import Derived.Test.YtnjncihnhjaddaaDoorIntS
import Derived.Test.YtnjncihnhjaddaaDoorFmt
import Derived.Test.YtnjncihnhjaddaaDoorParse
import Derived.Test.YtnjncihnhjaddaaDoorParses
import Derived.Test.YtnjncihnhjaddaaDoorDoor
import Derived.Test.YtnjncihnhjaddaaDoorDoorErr
namespace Go.Proofs.YtnjncihnhjaddaaDoor.fnExactParseInts
open Go.ChangeShapes Go.WideShapes Go.ChangeAt Go.RowKit
open Go.ChangeMaps (open_string shut_string)
set_option linter.unusedVariables false

theorem own : ownKnob Tryd.prog.godebug = none := by kernel_rfl
theorem laidOut : laidOutB Tryd.prog = true := by kernel_rfl
theorem nums_same {s : ByteArray} {xs ys : List Int} {b c : Bool} (h1 : b = true → NumsOf s xs) (h2 : b = false → xs = [] ∧ ∀ k, ¬ NumsOf s k) (g1 : c = true → NumsOf s ys) (g2 : c = false → ys = [] ∧ ∀ j, ¬ NumsOf s j) : ys = xs ∧ c = b := by
  cases b <;> cases c
  · exact ⟨(g2 rfl).1.trans (h2 rfl).1.symm, rfl⟩
  · exact absurd (g1 rfl) ((h2 rfl).2 ys)
  · exact absurd (h1 rfl) ((g2 rfl).2 xs)
  · exact ⟨nums_inj (g1 rfl) (h1 rfl), rfl⟩
theorem row_of_own {w : World} {base : Nat} {A : Option Addr} {c : Nat} {xs : List Int} (h : w.ownsRow base 3 1 (.slice A xs.length c) xs.length (xs.map I64)) : Row I64 w w.heap.size A xs := Row.of_own h
theorem walk (w : World) (a0 : ByteArray) (w0 : a0.size ≤ maxLen) (HP : Hid (Pow w)) (HE : Hid (Errs w)) (HPL : Hid (2 < w.heap.size)) (HEL : Hid (0 < w.heap.size ∧ 1 < w.heap.size)) :
    Calls Tryd.prog 6 #[.string a0] w fun e w' => e = .returned (.bool true) ∧ Below w.heap.size w w' := by
  by_cases hbig : a0.size ≤ 1048576
  · go_enter Tryd.func6, Tryd.ntmps6
    go_wp2_with fail
    refine (sParses_any _ _ hbig).mono ?_
    rintro e w1 ⟨b, xs, A1, c1, rfl, ho1, h1, h2, hlen, hb1⟩
    have H1 := Lib.hid h1
    have H2 := Lib.hid h2
    have HR1 := Lib.hid (row_of_own ho1)
    have HP1 := Lib.hid (HP.out.later hb1)
    have HE1 := Lib.hid (HE.out.later hb1)
    have HB1 := Lib.hid hb1
    have hs1 : w.heap.size ≤ w1.heap.size := hb1.size
    clear h1 h2 hb1 HP HE ho1
    go_wp2_with fail
    refine (parses_any _ _ hbig HP1.out HE1.out).mono ?_
    rintro e w2 ⟨c, ys, A2, c2, rfl, ho2, g1, g2, _, hb2⟩
    obtain ⟨rfl, rfl⟩ := nums_same H1.out H2.out g1 g2
    have HR2 := Lib.hid (HR1.out.below hb2)
    have HO2 := Lib.hid ho2
    have HP2 := Lib.hid (HP1.out.later hb2)
    have HE2 := Lib.hid (HE1.out.later hb2)
    have HB2 := Lib.hid (HB1.out.trans (hb2.mono HB1.out.size))
    have hs2 : w1.heap.size ≤ w2.heap.size := hb2.size
    have G1 := Lib.hid g1
    have G2 := Lib.hid g2
    clear ho2 g1 g2 hb2 HR1 HP1 HE1 HB1 H1 H2
    go_wp2_with fail
    refine (eqIntS_same _ _ _ _ ys _ (row_of_own HO2.out) (HR2.out.more hs2) (by omega)).mono ?_
    rintro e w3 ⟨rfl, hb3⟩
    have HO3 := Lib.hid (own_keep' HO2.out hb3)
    have HR3 := Lib.hid (HR2.out.below (hb3.mono hs2))
    have HP3 := Lib.hid (HP2.out.later hb3)
    have HE3 := Lib.hid (HE2.out.later hb3)
    have HB3 := Lib.hid (HB2.out.trans (hb3.mono HB2.out.size))
    have hs3 : w1.heap.size ≤ w3.heap.size := Nat.le_trans hs2 hb3.size
    clear hb3 HO2 HB2 HR2 HP2 HE2
    go_wp2_with fail
    refine (markIntS_any _ _ w1.heap.size 1 ys _ HO3.out (by omega)).mono ?_
    rintro e w4 ⟨rfl, ho4, hb4⟩
    have HM4 : Hid (Row I64 w4 w4.heap.size A2 (ups 1 ys.length)) := Lib.hid (Row.of_own ho4)
    have HR4 := Lib.hid (HR3.out.below hb4)
    have HB4 := Lib.hid (HB3.out.trans (hb4.mono hs1))
    have HP4 : Hid (Pow w4) := Lib.hid (pow_below HP3.out hb4 HPL.out hs1)
    have HE4 : Hid (Errs w4) := Lib.hid (errs_below HE3.out hb4 HEL.out hs1)
    have hs4 : w1.heap.size ≤ w4.heap.size := Nat.le_trans hs3 hb4.size
    clear ho4 hb4 HO3 HR3 HB3 HP3 HE3
    go_wp2_with fail
    refine (heldIntS_any _ _ 1 ys.length _ HM4.out (by omega)).mono ?_
    rintro e w5 ⟨rfl, hb5⟩
    have HM5 := Lib.hid (HM4.out.later hb5)
    have HR5 := Lib.hid (HR4.out.below (hb5.mono hs4))
    have HB5 := Lib.hid (HB4.out.trans (hb5.mono HB4.out.size))
    have HP5 := Lib.hid (HP4.out.later hb5)
    have HE5 := Lib.hid (HE4.out.later hb5)
    have hs5 : w1.heap.size ≤ w5.heap.size := Nat.le_trans hs4 hb5.size
    clear hb5 HM4 HR4 HB4 HP4 HE4
    go_wp2_with fail
    refine (parses_any _ _ hbig HP5.out HE5.out).mono ?_
    rintro e w6 ⟨c6, zs, A6, cc6, rfl, ho6, g1, g2, _, hb6⟩
    obtain ⟨rfl, rfl⟩ := nums_same G1.out G2.out g1 g2
    have HM6 := Lib.hid (HM5.out.later hb6)
    have HR6 := Lib.hid (HR5.out.below (hb6.mono hs5))
    have HB6 := Lib.hid (HB5.out.trans (hb6.mono HB5.out.size))
    have hs6 : w1.heap.size ≤ w6.heap.size := Nat.le_trans hs5 hb6.size
    have HO6 := Lib.hid ho6
    clear hb6 HM5 HR5 HB5 ho6 g1 g2 HP5 HE5 G1 G2
    go_wp2_with fail
    refine (eqIntS_same _ _ _ _ zs _ (row_of_own HO6.out) (HR6.out.more hs6) (by omega)).mono ?_
    rintro e w7 ⟨rfl, hb7⟩
    have HM7 := Lib.hid (HM6.out.later hb7)
    have HB7 := Lib.hid (HB6.out.trans (hb7.mono HB6.out.size))
    clear hb7 HM6 HB6 HO6 HR6
    go_wp2_with fail
    refine (heldIntS_any _ _ 1 zs.length _ HM7.out (by omega)).mono ?_
    rintro e w8 ⟨rfl, hb8⟩
    have HB8 := Lib.hid (HB7.out.trans (hb8.mono HB7.out.size))
    clear hb8 HM7 HB7
    go_wp2_with fail
    go_ret
    exact ⟨rfl, HB8.out⟩
  · go_enter Tryd.func6, Tryd.ntmps6
    go_wp2_with fail
    go_ret
    exact ⟨rfl, Below.refl _ _⟩

theorem contract (H : Type) (enc : TypeId × Value → H) (W : World) (base : Nat) (args : Array Value) (ds gs : List (DataW H)) (before : List MemPlace)
    (hval : ∀ (j : Nat) t v, Tryd.f6.params[j]? = some t → args[j]? = some v → Value.okWide Tryd.prog W .any base t v)
    (hW : DataW.Whole enc Tryd.prog Tryd.f6.params.toList Rows.fnExactParseIntsSpec.vars false W args.toList ds gs before) (hL : laidMetH Tryd.prog Rows.fnExactParseIntsRow.laid W) :
    Calls Tryd.prog 6 args W fun e W' => ∃ v, e = .returned v ∧ Rows.fnExactParseIntsSpec.post enc Tryd.prog Tryd.f6 false true false false W args v W' := by
  have hW' := hW
  obtain ⟨p, q, hA0, hV, rfl, hfz, hnd⟩ := hW
  have hA : DataW.TrodAll enc Tryd.prog W 0 (fun _ => true) true Tryd.f6.params.toList args.toList ds p := hA0
  rw [Tryd.params6] at hA hval
  obtain ⟨v0, vs0, d0, ds0, p0, q0, hargs, rfl, rfl, h0, r1000⟩ := trodAll_cons hA
  obtain ⟨rfl, rfl, rfl⟩ := trodAll_nil r1000
  obtain rfl : args = #[v0] := by cases args; simp_all
  obtain ⟨rfl, rfl⟩ := trodVars_none hV
  obtain ⟨a0, rfl, rfl, rfl, w0⟩ := open_string Tryd.underlying9 (hval 0 9 v0 rfl rfl) h0
  clear hA0
  refine (walk W a0 w0 (Lib.hid (pow_of _ (by kernel_rfl) hL)) (Lib.hid (errs_of _ (by kernel_rfl) (by kernel_rfl) hL)) (Lib.hid (pow_lt (pow_of _ (by kernel_rfl) hL))) (Lib.hid (errs_lt (errs_of _ (by kernel_rfl) (by kernel_rfl) hL)))).mono fun e W' ⟨he, bel⟩ => ?_
  subst he
  exact ⟨_, rfl, _, _, _, [], _, [], hW', trodAll_mk1 (shut_bool Tryd.underlying4 _), (trodAll_cons_mk (shut_string Tryd.underlying9 w0) trodAll_mk0), rfl, bel.frame _, fun h => by cases h⟩

theorem laid_met (os : Os) : laidMet Tryd.prog Rows.fnExactParseIntsRow.laid ((laidWorldE os).forCall (fun _ _ => 0) ⟨#[], #[.string ByteArray.empty], []⟩).memory :=
  laidMet_of_run' 8 (by kernel_rfl) (by kernel_rfl)
theorem reads (os : Os) {H : Type} (enc : TypeId × Value → H) : ∃ d places, DataW.whole enc Tryd.prog ((laidWorldE os).forCall (fun _ _ => 0) ⟨#[], #[.string ByteArray.empty], []⟩).memory Tryd.f6.params.toList Rows.fnExactParseIntsSpec.vars false (#[.string ByteArray.empty] : Array Value).toList 8 = some (d, [], places) :=
  ⟨[.lit (.string [])], [], by kernel_rfl⟩
set_option maxRecDepth 100000 in
theorem lifted (os : Os) (started : os.Started) (H : Type) (enc : TypeId × Value → H) (F : Stop.Interp) :
    ReturnsInHanded {} Tryd.checked os 6 .any ((OpenSpec.ofChange Rows.fnExactParseIntsSpec).preRow enc Tryd.prog Tryd.f6 Rows.fnExactParseIntsRow.domain false Rows.fnExactParseIntsRow.laid) (((OpenSpec.ofChange Rows.fnExactParseIntsSpec).at F).post enc Tryd.prog Tryd.f6 false true false false) := by
  obtain ⟨d, places, hx⟩ := reads os enc
  refine returnsInHanded_of_row (C := Tryd.checked) (s := OpenSpec.ofChange Rows.fnExactParseIntsSpec) own started (by kernel_rfl) Tryd.func6
    (witness_row_atRef (enc := enc) (C := Tryd.checked) false (laidWorldE os) #[.string ByteArray.empty] rfl (by kernel_rfl) (by kernel_rfl) (by kernel_rfl)
      (OpenSpec.preRow_of_cond 8 hx (by kernel_rfl) (fun k hk => by cases hk) (by kernel_rfl) (laid_met os))) ?_
  intro W base args ds gs before hval hW _ _ _ hL _ _
  exact contract H enc W base args ds gs before hval hW hL
theorem said : Rows.FnExactParseIntsSaid :=
  OpenClaim.holds_of_cond 6 Tryd.f6 rfl rfl rfl rfl rfl rfl rfl ⟨rfl, rfl, rfl, rfl, rfl⟩ rfl rfl rfl rfl rfl (by kernel_rfl) Tryd.func6 (by kernel_rfl)
    (of_decide_eq_true (by kernel_rfl)) (by unfold Func.isWrapper; first | (rw [if_pos (by decide +kernel)]; kernel_rfl) | (rw [if_neg (by decide +kernel)]; exact ⟨rfl, rfl⟩))
    (fun os started H enc _ F => by rw [OpenClaim.pre_eq_preRow]; exact lifted os started H enc F)
theorem plain (f : FuncId) (fn : Func) (hf : Tryd.pinned.checked.prog.funcNamed "loop.example/g00809/laws.FnExactParseInts" = some f) (hfn : Tryd.pinned.checked.prog.funcs[f]? = some fn) :
    true = Tryd.pinned.checked.prog.looks [] ∧ ∀ (j : Nat) t, fn.params[j]? = some t → Tryd.pinned.checked.prog.wantsStandIn t = false := by
  obtain rfl : f = 6 := Option.some.inj ((show Tryd.prog.funcNamed "loop.example/g00809/laws.FnExactParseInts" = some 6 by kernel_rfl).symm.trans hf) |>.symm
  obtain rfl : fn = Tryd.f6 := (Option.some.inj (Tryd.func6.symm.trans hfn)).symm
  refine ⟨by kernel_rfl, fun j t ht => ?_⟩
  rw [Tryd.params6] at ht
  have hm := Array.mem_of_getElem? ht
  simp only [List.mem_toArray, List.mem_cons, List.not_mem_nil, or_false] at hm
  rcases hm with rfl
  · exact (show Tryd.prog.wantsStandIn 9 = false by kernel_rfl)
theorem proved : Rows.FnExactParseIntsCardSaid :=
  Claim7.holds_tied_plain_at .later [] _ _ _ _ said (fun _ h => by cases h) (by kernel_rfl) (fun _ h => by cases h) fnExactParseInts_row_tie rfl ⟨rfl, rfl⟩ (by kernel_rfl) rfl plain (by kernel_rfl)
#print axioms proved
end Go.Proofs.YtnjncihnhjaddaaDoor.fnExactParseInts
