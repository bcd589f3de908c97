/-
  Proved: the law FnExactSplitLines returns true for every input and its arguments read behind the call as they read before. Conditions: none of our own; those of the given row alone. The frame was written by the kit's program, the walk by hand.
-/
import Derived.Test.YtnjncihnhjaddaaRows
import Derived.WalkKit
import Derived.Test.YtnjncihnhjaddaaMem
import Derived.Test.YtnjncihnhjaddaaStrS
import Derived.Test.YtnjncihnhjaddaaSplit
import Derived.Test.YtnjncihnhjaddaaLines
import Derived.ProofKit
import Derived.OpenShut
import Derived.ShutString
import Derived.ChangeOld
import Derived.Below
namespace Go.Proofs.Ytnjncihnhjaddaa.fnExactSplitLines
open Go.ChangeShapes Go.WideShapes Go.ChangeAt Go.RowKit
open Go.ChangeMaps (open_string shut_string)
set_option linter.unusedVariables false      -- a walk need not use every 'w<i>' (that an integer argument fits its kind)

theorem own : ownKnob Try.prog.godebug = none := by kernel_rfl

theorem row_of_own {w : World} {base : Nat} {A : Option Addr} {c : Nat} {xs : List ByteArray} (h : w.ownsRow base 9 1 (.slice A xs.length c) xs.length (xs.map Str)) : Row Str w w.heap.size A xs := Row.of_own h

theorem walk (a0 : ByteArray) (w0 : a0.size ≤ maxLen) (w : World) :
    Calls Try.prog 7 #[.string a0] w fun e w' => e = .returned (.bool true) ∧ Below w.heap.size w w' := by
  by_cases hbig : a0.size ≤ 1048576
  · go_enter Try.func7, Try.ntmps7
    go_wp2_with fail
    refine (sSplitLines_any a0 _ hbig).mono ?_
    rintro e w1 ⟨A1, c1, rfl, ho1, hb1⟩
    have HO1 := Lib.hid ho1
    clear ho1
    have hlen : (linesP a0).length ≤ 1048577 := by have := (splitAt_le a0 nl a0.size).2; unfold linesP; split <;> simp <;> omega
    go_wp2_with fail
    refine (splitLines_any a0 _ hbig).mono ?_
    rintro e w2 ⟨A2, c2, rfl, ho2, hb2⟩
    obtain ⟨xs, hxs⟩ : ∃ xs, xs = linesP a0 := ⟨_, rfl⟩
    have hsp := splitLines_any a0
    rw [← hxs] at hlen HO1 ho2 hsp ⊢
    have HSP := Lib.hid hsp
    clear hxs hsp
    have HR2 := Lib.hid (HO1.out.below hb2)
    have HO2 := Lib.hid ho2
    have HB2 := Lib.hid (hb1.trans (hb2.mono hb1.size))
    have hs1 : w.heap.size ≤ w1.heap.size := hb1.size
    have hs2 : w1.heap.size ≤ w2.heap.size := hb2.size
    clear ho2 hb1 hb2 HO1
    go_wp2_with fail
    refine (eqStringS_same _ _ _ _ xs _ (row_of_own HO2.out) (HR2.out.more hs2) (by omega)).mono ?_
    rintro e w3 ⟨rfl, hb3⟩
    have HO3 := Lib.hid (own_keep' HO2.out hb3)
    have HR3 := Lib.hid (HR2.out.below (hb3.mono hs2))
    have HB3 := Lib.hid (HB2.out.trans (hb3.mono HB2.out.size))
    have hs3 : w1.heap.size ≤ w3.heap.size := Nat.le_trans hs2 hb3.size
    clear hb3 HO2 HB2 HR2
    go_wp2_with fail
    refine (markStringS_any _ _ w1.heap.size 1 xs _ HO3.out hs3 (by omega) (by omega)).mono ?_
    rintro e w4 ⟨rfl, ho4, hb4⟩
    have HM4 : Hid (Row Str w4 w4.heap.size A2 (marks 1 xs.length)) := Lib.hid (Row.of_own ho4)
    have HR4 := Lib.hid (HR3.out.below hb4)
    have HB4 := Lib.hid (HB3.out.trans (hb4.mono hs1))
    have hs4 : w1.heap.size ≤ w4.heap.size := Nat.le_trans hs3 hb4.size
    clear ho4 hb4 HO3 HR3 HB3
    go_wp2_with fail
    refine (heldStringS_any _ _ 1 xs.length _ HM4.out (by omega) (by omega)).mono ?_
    rintro e w5 ⟨rfl, hb5⟩
    have HM5 := Lib.hid (HM4.out.later hb5)
    have HR5 := Lib.hid (HR4.out.below (hb5.mono hs4))
    have HB5 := Lib.hid (HB4.out.trans (hb5.mono HB4.out.size))
    have hs5 : w1.heap.size ≤ w5.heap.size := Nat.le_trans hs4 hb5.size
    clear hb5 HM4 HR4 HB4
    go_wp2_with fail
    refine (HSP.out _ hbig).mono ?_
    rintro e w6 ⟨A6, c6, rfl, ho6, hb6⟩
    have HM6 := Lib.hid (HM5.out.later hb6)
    have HR6 := Lib.hid (HR5.out.below (hb6.mono hs5))
    have HB6 := Lib.hid (HB5.out.trans (hb6.mono HB5.out.size))
    have hs6 : w1.heap.size ≤ w6.heap.size := Nat.le_trans hs5 hb6.size
    have HO6 := Lib.hid ho6
    clear hb6 HM5 HR5 HB5 ho6
    go_wp2_with fail
    refine (eqStringS_same _ _ _ _ xs _ (row_of_own HO6.out) (HR6.out.more hs6) (by omega)).mono ?_
    rintro e w7 ⟨rfl, hb7⟩
    have HM7 := Lib.hid (HM6.out.later hb7)
    have HB7 := Lib.hid (HB6.out.trans (hb7.mono HB6.out.size))
    clear hb7 HM6 HB6 HO6 HR6
    go_wp2_with fail
    refine (heldStringS_any _ _ 1 xs.length _ HM7.out (by omega) (by omega)).mono ?_
    rintro e w8 ⟨rfl, hb8⟩
    have HB8 := Lib.hid (HB7.out.trans (hb8.mono HB7.out.size))
    clear hb8 HM7 HB7
    go_wp2_with fail
    go_ret
    exact ⟨rfl, HB8.out⟩
  · go_enter Try.func7, Try.ntmps7
    go_wp2_with fail
    go_ret
    exact ⟨rfl, Below.refl _ _⟩

set_option maxRecDepth 100000 in
theorem lifted (os : Os) (started : os.Started) (H : Type) (enc : TypeId × Value → H) :
    ReturnsInHanded {} Try.checked os 7 .any (Rows.fnExactSplitLinesSpec.pre6 enc Try.prog Try.f7 Rows.fnExactSplitLinesRow.domain false) (Rows.fnExactSplitLinesSpec.post enc Try.prog Try.f7 false true false false) := by
  refine returnsInHanded_of_change (C := Try.checked) own started (by kernel_rfl) Try.func7
    (ChangeSpec.witness6 (enc := enc) (C := Try.checked) false ⟨#[], #[.string ByteArray.empty], []⟩ 8 (by kernel_rfl) (by kernel_rfl) (by kernel_rfl) (by kernel_rfl)) ?_
  intro W base args ds gs before hval0 hW hcnd _
  have hval : ∀ (j : Nat) t v, Try.f7.params[j]? = some t → args[j]? = some v → Value.okWide Try.prog W .any base t v := hval0
  have hW' := hW
  obtain ⟨p, q, hA0, hV, rfl, hfz, hnd⟩ := hW
  have hA : DataW.TrodAll enc Try.prog W 0 (fun _ => true) true Try.f7.params.toList args.toList ds p := hA0
  rw [Try.params7] at hA hval
  obtain ⟨v0, vs0, d0, ds0, p0, q0, hargs, rfl, rfl, h0, r0⟩ := trodAll_cons hA
  obtain ⟨rfl, rfl, rfl⟩ := trodAll_nil r0
  obtain rfl : args = #[v0] := by cases args; simp_all
  obtain ⟨rfl, rfl⟩ := trodVars_none hV
  obtain ⟨a0, rfl, rfl, rfl, w0⟩ := open_string Try.underlying9 (hval 0 9 v0 rfl rfl) h0
  clear hA0 hval0
  refine (walk a0 w0 W).mono fun e W' ⟨he, hg⟩ => ?_
  subst he
  exact ⟨_, rfl, _, _, _, [], _, [], hW', (trodAll_cons_mk (shut_bool Try.underlying4 _) trodAll_mk0), (trodAll_cons_mk (shut_string Try.underlying9 w0) trodAll_mk0), rfl, hg.frame _, fun h => by cases h⟩

theorem over : Rows.fnExactSplitLinesRow.holds Try.pinned (OpenSpec.ofChange Rows.fnExactSplitLinesSpec) :=
  OpenClaim.holds_of_wide 7 Try.f7 rfl rfl rfl rfl rfl rfl rfl ⟨rfl, rfl, rfl, rfl, rfl⟩ rfl rfl rfl rfl rfl (by kernel_rfl) Try.func7 (by kernel_rfl)
    (of_decide_eq_true (by kernel_rfl)) (by unfold Func.isWrapper; first | (rw [if_pos (by decide +kernel)]; kernel_rfl) | (rw [if_neg (by decide +kernel)]; exact ⟨rfl, rfl⟩))
    (fun os started H enc _ => lifted os started H enc)

theorem proved : Rows.FnExactSplitLinesSaid :=
  over
#print axioms proved
end Go.Proofs.Ytnjncihnhjaddaa.fnExactSplitLines
