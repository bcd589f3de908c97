/-
  Proved: the law FnExactTokenize returns true for every input and its arguments read behind the call as they read before. Conditions: none of our own; those of the given row alone.
-/
import Derived.Test.YtkkjkbloappdhaaDoorRows
import Derived.Test.YtkkjkbloappdhaaDoorCards
import Derived.Test.YtkkjkbloappdhaaDoorTie
import Derived.WalkKit
import Derived.ProofKit
import Derived.OpenShut
import Derived.ShutString
import Derived.SliceStrings
import Derived.ChangeOld
import Derived.Below
import Derived.Deep.DeepHandedRow
import Derived.Lib.LaidTab
import Derived.Test.YtkkjkbloappdhaaDoorMem
import Derived.Test.YtkkjkbloappdhaaDoorStrS
import Derived.Test.YtkkjkbloappdhaaDoorRowC
import Derived.Test.YtkkjkbloappdhaaDoorHeld
import Derived.Test.YtkkjkbloappdhaaDoorKS
import Derived.Test.YtkkjkbloappdhaaDoorTok
import Derived.Test.YtkkjkbloappdhaaDoorShelf
import Derived.Test.YtkkjkbloappdhaaDoorFn
import Derived.Test.YtkkjkbloappdhaaDoorTp
import Derived.Test.YtkkjkbloappdhaaDoorTk
import Derived.Test.YtkkjkbloappdhaaDoorTl
import Derived.Test.YtkkjkbloappdhaaDoorTm
import Derived.Test.YtkkjkbloappdhaaDoorIdent
import Derived.Test.YtkkjkbloappdhaaDoorIa
import Derived.Test.YtkkjkbloappdhaaDoorIb
import Derived.Test.YtkkjkbloappdhaaDoorDoorT
import Derived.Test.YtkkjkbloappdhaaDoorAs
import Derived.Test.YtkkjkbloappdhaaDoorIc
import Derived.Handy
namespace Go.Proofs.YtkkjkbloappdhaaDoor.fnExactTokenize
open Go.ChangeShapes Go.WideShapes Go.ChangeAt Go.RowKit
open Go.ChangeMaps (open_string shut_string)
set_option linter.unusedVariables false

theorem own : ownKnob Tryd.prog.godebug = none := by kernel_rfl
theorem laidOut : laidOutB Tryd.prog = true := by kernel_rfl
set_option maxHeartbeats 4000000 in
theorem walk (w : World) (a0 : ByteArray) (w0 : a0.size ≤ maxLen) (HG : Hid (ErrT w)) :
    Calls Tryd.prog 3 #[.string a0] w fun e w' => e = .returned (.bool true) ∧ Below w.heap.size w w' := by
  by_cases hbig : a0.size ≤ 1048576
  · have hS := fun W => sTok_any a0 W
    have hI := fun W h => tok_any a0 W h
    have hl : (tokP a0).1.length ≤ 1048577 := by
      unfold tokP
      split
      · simp
      · have := tok_len (s := a0) (a0.size - 0) 0 [] rfl (Nat.le_refl _) (by omega)
        omega
    obtain ⟨R, hR⟩ : ∃ R, R = tokP a0 := ⟨_, rfl⟩
    rw [← hR] at hS hI hl
    obtain ⟨xs, n⟩ := R
    have HS := Lib.hid hS
    have HI := Lib.hid hI
    have hlen : xs.length ≤ 1048577 := hl
    have HGL := Lib.hid HG.out.lt
    clear hS hI hR hl
    go_enter Tryd.func3, Tryd.ntmps3
    go_wp2_with fail
    refine (HS.out _).mono ?_
    rintro e w1 ⟨A1, c1, rfl, ho1, hb1⟩
    have HG1 := Lib.hid (HG.out.later hb1)
    have HW1 : Hid (RowC 4 tkg w1 w1.heap.size A1 xs) := Lib.hid (RowC.of_own tkg_len ho1 rfl)
    have HB1 := Lib.hid hb1
    clear ho1 hb1 HG
    dsimp only
    go_wp2_with fail
    refine (HI.out _ HG1.out).mono ?_
    rintro e w2 ⟨A2, c2, rfl, ho2, hb2⟩
    have HG2 := Lib.hid (HG1.out.later hb2)
    have HW2 := Lib.hid (HW1.out.below hb2)
    have HO2 : Hid (w2.ownsRow w1.heap.size 31 4 (.slice A2 xs.length c2) xs.length (xs.flatMap tkg)) := Lib.hid ho2
    have HB2 := Lib.hid (HB1.out.trans (hb2.mono HB1.out.size))
    have hs1 : w.heap.size ≤ w1.heap.size := HB1.out.size
    have hs2 : w1.heap.size ≤ w2.heap.size := hb2.size
    clear ho2 hb2 HB1 HW1 HG1
    dsimp only
    go_wp2_with fail
    refine (eqTokS_same _ _ _ _ xs _ (RowC.of_own tkg_len HO2.out rfl) (HW2.out.more hs2) (by omega)).mono ?_
    rintro e w3 ⟨rfl, hb3⟩
    have HG3 := Lib.hid (HG2.out.later hb3)
    have HO3 := Lib.hid (own_keep' HO2.out hb3)
    have HW3 := Lib.hid (HW2.out.below (hb3.mono hs2))
    have HB3 := Lib.hid (HB2.out.trans (hb3.mono HB2.out.size))
    have hs3 : w1.heap.size ≤ w3.heap.size := Nat.le_trans hs2 hb3.size
    clear hb3 HO2 HB2 HW2 HG2 hs2
    go_wp2_with fail
    refine (markTokS_any _ _ w1.heap.size 1 xs _ HO3.out hs3 (by omega) (by omega)).mono ?_
    rintro e w4 ⟨rfl, ho4, hg4⟩
    have hb4 := below_own (Below.refl w1.heap.size w3) hg4 hs3 (own_block HO3.out)
    have HG4 : Hid (ErrT w4) := Lib.hid (by
      have hlt := HGL.out
      have h3 := HG3.out
      exact (hb4.cell (p := ⟨0, 0, none⟩) (by show 0 < w1.heap.size; omega)).trans h3)
    have HM4 : Hid (RowC 4 tkg w4 w4.heap.size A2 (marks4 1 xs.length)) := Lib.hid (RowC.of_own tkg_len ho4 (marks4_len _ _))
    have HW4 := Lib.hid (HW3.out.below hb4)
    have HB4 := Lib.hid (HB3.out.trans (hb4.mono hs1))
    have hs4 : w1.heap.size ≤ w4.heap.size := Nat.le_trans hs3 hb4.size
    clear ho4 hg4 hb4 HO3 HW3 HB3 HG3 hs3
    go_wp2_with fail
    refine (heldTokS_any _ _ 1 xs.length _ HM4.out (by omega) (by omega)).mono ?_
    rintro e w5 ⟨rfl, hb5⟩
    have HG5 := Lib.hid (HG4.out.later hb5)
    have HM5 := Lib.hid (HM4.out.later hb5)
    have HW5 := Lib.hid (HW4.out.below (hb5.mono hs4))
    have HB5 := Lib.hid (HB4.out.trans (hb5.mono HB4.out.size))
    have hs5 : w1.heap.size ≤ w5.heap.size := Nat.le_trans hs4 hb5.size
    clear hb5 HM4 HW4 HB4 HG4 hs4
    go_wp2_with fail
    refine (HI.out _ HG5.out).mono ?_
    rintro e w6 ⟨A6, c6, rfl, ho6, hb6⟩
    have HM6 := Lib.hid (HM5.out.later hb6)
    have HW6 := Lib.hid (HW5.out.below (hb6.mono hs5))
    have HB6 := Lib.hid (HB5.out.trans (hb6.mono HB5.out.size))
    have HO6 : Hid (w6.ownsRow w5.heap.size 31 4 (.slice A6 xs.length c6) xs.length (xs.flatMap tkg)) := Lib.hid ho6
    have hs6 : w1.heap.size ≤ w6.heap.size := Nat.le_trans hs5 hb6.size
    clear ho6 hb6 HM5 HW5 HB5 HG5 hs5
    dsimp only
    go_wp2_with fail
    refine (eqTokS_same _ _ _ _ xs _ (RowC.of_own tkg_len HO6.out rfl) (HW6.out.more hs6) (by omega)).mono ?_
    rintro e w7 ⟨rfl, hb7⟩
    have HM7 := Lib.hid (HM6.out.later hb7)
    have HB7 := Lib.hid (HB6.out.trans (hb7.mono HB6.out.size))
    clear hb7 HM6 HB6 HO6 HW6 hs6
    go_wp2_with fail
    refine (heldTokS_any _ _ 1 xs.length _ HM7.out (by omega) (by omega)).mono ?_
    rintro e w8 ⟨rfl, hb8⟩
    have HB8 := Lib.hid (HB7.out.trans (hb8.mono HB7.out.size))
    clear hb8 HM7 HB7
    go_wp2_with fail
    go_ret
    exact ⟨rfl, HB8.out⟩
  · go_enter Tryd.func3, Tryd.ntmps3
    go_wp2_with fail
    go_ret
    exact ⟨rfl, Below.refl _ _⟩

set_option maxRecDepth 100000 in
theorem contract (H : Type) (enc : TypeId × Value → H) (W : World) (base : Nat) (args : Array Value) (ds gs : List (DataW H)) (before : List MemPlace)
    (hval : ∀ (j : Nat) t v, Tryd.f3.params[j]? = some t → args[j]? = some v → Value.okWide Tryd.prog W .any base t v)
    (hW : DataW.Whole enc Tryd.prog Tryd.f3.params.toList Rows.fnExactTokenizeSpec.vars false W args.toList ds gs before) (hL : laidMetH Tryd.prog Rows.fnExactTokenizeRow.laid W) :
    Calls Tryd.prog 3 args W fun e W' => ∃ v, e = .returned v ∧ Rows.fnExactTokenizeSpec.post enc Tryd.prog Tryd.f3 false true false false W args v W' := by
  have hW' := hW
  obtain ⟨p, q, hA0, hV, rfl, hfz, hnd⟩ := hW
  have hA : DataW.TrodAll enc Tryd.prog W 0 (fun _ => true) true Tryd.f3.params.toList args.toList ds p := hA0
  rw [Tryd.params3] at hA hval
  obtain ⟨v0, vs0, d0, ds0, p0, q0, hargs, rfl, rfl, h0, r1000⟩ := trodAll_cons hA
  obtain ⟨rfl, rfl, rfl⟩ := trodAll_nil r1000
  obtain rfl : args = #[v0] := by cases args; simp_all
  obtain ⟨rfl, rfl⟩ := trodVars_none hV
  obtain ⟨a0, rfl, rfl, rfl, w0⟩ := open_string Tryd.underlying9 (hval 0 9 v0 rfl rfl) h0
  clear hA0
  refine (walk W a0 w0 (Lib.hid (errT_of _ (by kernel_rfl) hL))).mono fun e W' ⟨he, bel⟩ => ?_
  subst he
  exact ⟨_, rfl, _, _, _, [], _, [], hW', trodAll_mk1 (shut_bool Tryd.underlying4 _), (trodAll_cons_mk (shut_string Tryd.underlying9 w0) trodAll_mk0), rfl, bel.frame _, fun h => by cases h⟩

theorem laid_met (os : Os) : laidMetH Tryd.prog Rows.fnExactTokenizeRow.laid ((laidWorldT os).forCall (fun _ _ => 0) ⟨#[], #[.string ByteArray.empty], []⟩).memory :=
  laidMetH_of_parts (laidMet_of_run' 8 (by kernel_rfl) (by kernel_rfl)) (by kernel_rfl)
theorem reads (os : Os) {H : Type} (enc : TypeId × Value → H) : ∃ d places, DataW.whole enc Tryd.prog ((laidWorldT os).forCall (fun _ _ => 0) ⟨#[], #[.string ByteArray.empty], []⟩).memory Tryd.f3.params.toList Rows.fnExactTokenizeSpec.vars false (#[.string ByteArray.empty] : Array Value).toList 8 = some (d, [], places) :=
  ⟨[.lit (.string [])], [], by kernel_rfl⟩
set_option maxRecDepth 100000 in
theorem lifted (os : Os) (started : os.Started) (H : Type) (enc : TypeId × Value → H) (F : Stop.Interp) :
    ReturnsInHanded {} Tryd.checked os 3 .any ((OpenSpec.ofChange Rows.fnExactTokenizeSpec).preRow enc Tryd.prog Tryd.f3 Rows.fnExactTokenizeRow.domain false Rows.fnExactTokenizeRow.laid) (((OpenSpec.ofChange Rows.fnExactTokenizeSpec).at F).post enc Tryd.prog Tryd.f3 false true false false) := by
  obtain ⟨d, places, hx⟩ := reads os enc
  refine returnsInHanded_of_row (C := Tryd.checked) (s := OpenSpec.ofChange Rows.fnExactTokenizeSpec) own started (by kernel_rfl) Tryd.func3
    (witness_row_at (enc := enc) (C := Tryd.checked) false (laidWorldT os) #[.string ByteArray.empty] rfl (by kernel_rfl) (by kernel_rfl) (by kernel_rfl)
      (OpenSpec.preRow_of_cond 8 hx (by kernel_rfl) (fun k hk => by cases hk) (by kernel_rfl) (laid_met os))) ?_
  intro W base args ds gs before hval hW _ _ _ hL _ _
  exact contract H enc W base args ds gs before hval hW hL
theorem said : Rows.FnExactTokenizeSaid :=
  OpenClaim.holds_of_cond 3 Tryd.f3 rfl rfl rfl rfl rfl rfl rfl ⟨rfl, rfl, rfl, rfl, rfl⟩ rfl rfl rfl rfl rfl (by kernel_rfl) Tryd.func3 (by kernel_rfl)
    (of_decide_eq_true (by kernel_rfl)) (by unfold Func.isWrapper; first | (rw [if_pos (by decide +kernel)]; kernel_rfl) | (rw [if_neg (by decide +kernel)]; exact ⟨rfl, rfl⟩))
    (fun os started H enc _ F => by rw [OpenClaim.pre_eq_preRow]; exact lifted os started H enc F)
theorem plain (f : FuncId) (fn : Func) (hf : Tryd.pinned.checked.prog.funcNamed "loop.example/g00809/laws.FnExactTokenize" = some f) (hfn : Tryd.pinned.checked.prog.funcs[f]? = some fn) :
    true = Tryd.pinned.checked.prog.looks [] ∧ ∀ (j : Nat) t, fn.params[j]? = some t → Tryd.pinned.checked.prog.wantsStandIn t = false := by
  obtain rfl : f = 3 := Option.some.inj ((show Tryd.prog.funcNamed "loop.example/g00809/laws.FnExactTokenize" = some 3 by kernel_rfl).symm.trans hf) |>.symm
  obtain rfl : fn = Tryd.f3 := (Option.some.inj (Tryd.func3.symm.trans hfn)).symm
  refine ⟨by kernel_rfl, fun j t ht => ?_⟩
  rw [Tryd.params3] at ht
  have hm := Array.mem_of_getElem? ht
  simp only [List.mem_toArray, List.mem_cons, List.not_mem_nil, or_false] at hm
  rcases hm with rfl
  · exact (show Tryd.prog.wantsStandIn 9 = false by kernel_rfl)
theorem proved : Rows.FnExactTokenizeCardSaid :=
  Claim7.holds_tied_plain_at .later [] _ _ _ _ said (fun _ h => by cases h) (by kernel_rfl) (fun _ h => by cases h) fnExactTokenize_row_tie rfl ⟨rfl, rfl⟩ (by kernel_rfl) rfl plain (by kernel_rfl)
#print axioms proved
end Go.Proofs.YtkkjkbloappdhaaDoor.fnExactTokenize
