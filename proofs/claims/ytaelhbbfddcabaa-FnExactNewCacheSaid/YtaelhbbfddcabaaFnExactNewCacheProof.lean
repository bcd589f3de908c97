/-
  Proved: the law FnExactNewCache returns true for every input and its arguments read behind the call as they read before. Conditions: none of our own; those of the given row alone.
-/
import Derived.Test.YtaelhbbfddcabaaRows
import Derived.WalkKit
import Derived.ProofKit
import Derived.OpenShut
import Derived.ShutString
import Derived.SliceStrings
import Derived.ChangeOld
import Derived.Below
import Derived.Test.YtaelhbbfddcabaaMem
import Derived.Test.YtaelhbbfddcabaaInts
import Derived.Test.YtaelhbbfddcabaaFlat
import Derived.Test.YtaelhbbfddcabaaVbox
import Derived.Test.YtaelhbbfddcabaaHeld
import Derived.Test.YtaelhbbfddcabaaRowC
import Derived.Test.YtaelhbbfddcabaaKS
import Derived.Test.YtaelhbbfddcabaaStrS
import Derived.Test.YtaelhbbfddcabaaIntS
import Derived.Test.YtaelhbbfddcabaaSS
import Derived.Test.YtaelhbbfddcabaaPg
import Derived.Test.YtaelhbbfddcabaaVi
import Derived.Test.YtaelhbbfddcabaaVa
import Derived.Test.YtaelhbbfddcabaaVb
import Derived.Test.YtaelhbbfddcabaaVc
import Derived.Test.YtaelhbbfddcabaaVd
import Derived.Test.YtaelhbbfddcabaaVe
import Derived.Test.YtaelhbbfddcabaaVf
import Derived.Test.YtaelhbbfddcabaaVg
import Derived.Test.YtaelhbbfddcabaaVh
import Derived.Test.YtaelhbbfddcabaaWa
import Derived.Test.YtaelhbbfddcabaaWb
import Derived.Test.YtaelhbbfddcabaaWc
import Derived.Test.YtaelhbbfddcabaaWd
import Derived.Test.YtaelhbbfddcabaaWe
import Derived.Test.YtaelhbbfddcabaaWf
import Derived.Test.YtaelhbbfddcabaaWg
import Derived.Test.YtaelhbbfddcabaaWh
import Derived.Test.YtaelhbbfddcabaaWm
import Derived.Test.YtaelhbbfddcabaaWn
import Derived.Deep.RegionHeld3
import Derived.Deep.DeepCutAuto
import Derived.Handy
namespace Go.Proofs.Ytaelhbbfddcabaa.fnExactNewCache
open Go.ChangeShapes Go.WideShapes Go.ChangeAt Go.RowKit
open Go.ChangeMaps (open_string shut_string)
set_option linter.unusedVariables false

theorem own : ownKnob Try.prog.godebug = none := by kernel_rfl
theorem laidOut : laidOutB Try.prog = true := by kernel_rfl
set_option maxRecDepth 100000 in
set_option maxHeartbeats 8000000 in
theorem walk (w : World) (a0 : Int) (w0 : (Lit.int .i64 a0).wf = true) :
    Calls Try.prog 4 #[.int .i64 a0] w fun e w' => e = .returned (.bool true) ∧ Below w.heap.size w w' := by
  clear w0
  have HT := Held.nil w
  obtain ⟨LL, hLL⟩ : ∃ l, l = clampP a0 1 12 := ⟨_, rfl⟩
  obtain ⟨yy, hyy⟩ : ∃ l : List V3, l = [] := ⟨_, rfl⟩
  obtain ⟨KK, hKK⟩ : ∃ l : Int, l = 0 := ⟨_, rfl⟩
  have HSV : ∀ W, Calls Try.prog 17 #[.int .i64 a0] W (CaOut LL yy KK W) := fun W => by rw [hLL, hyy, hKK]; exact sNewC_any a0 W
  have HIV : ∀ W, Calls Try.prog 18 #[.int .i64 a0] W (CaOut LL yy KK W) := fun W => by rw [hLL, hyy, hKK]; exact newC_any a0 W
  have HLEN : Hid (yy.length ≤ 1048577) := Lib.hid (by rw [hyy]; simp)
  clear hLL hyy hKK
  go_enter Try.func4, Try.ntmps4
  go_wp2_with fail
  refine (HSV _).mono ?_
  rintro e w3 ⟨A3, c3, rfl, ho3, hb3⟩
  have HT := (HT.later hb3).new #[.int .i64 LL, .slice A3 yy.length c3, .int .i64 KK] 29
  have R0 := (RowC.of_own vg_len ho3 rfl : RowC 3 vg w3 w3.heap.size A3 yy).alloc (Nat.le_refl _) (.cells #[.int .i64 LL, .slice A3 yy.length c3, .int .i64 KK] 29)
  have hlo : w.heap.size ≤ w3.heap.size := hb3.size
  clear hb3 ho3
  go_wp2_with fail
  refine (HIV _).mono ?_
  rintro e w5 ⟨A5, c5, rfl, ho5, hb5⟩
  rw [World.size_alloc] at ho5
  have hs5 : w3.heap.size + 1 ≤ w5.heap.size := by have := hb5.size; simpa using this
  have HU : Hid (∀ q, Value.ownBlock (.slice A5 yy.length c5) = some q → q < w5.heap.size) := Lib.hid fun q h => (ho5.lt q h).2
  have HT := (HT.later hb5).new #[.int .i64 LL, .slice A5 yy.length c5, .int .i64 KK] 29
  have hbx : Below w5.heap.size w5 (w5.alloc (.cells #[.int .i64 LL, .slice A5 yy.length c5, .int .i64 KK] 29)) := by go_grown
  have HO := own_keep' ho5 hbx
  have R0 := (R0.below (hb5.mono (by simp))).alloc (by omega) (.cells #[.int .i64 LL, .slice A5 yy.length c5, .int .i64 KK] 29)
  clear hb5 ho5 hbx
  have k00 := (HT.box 0).c 0
  have k01 := (HT.box 0).c 1
  have k02 := (HT.box 0).c 2
  have k10 := (HT.box 1).c 0
  have k11 := (HT.box 1).c 1
  have k12 := (HT.box 1).c 2
  go_wp2_with fail
  refine (eqCache_same LL _ _ _ _ yy KK _ (RowC.of_own vg_len HO rfl) (R0.more (by simp; omega)) (by have := HLEN.out; omega)).mono ?_
  rintro e w6 ⟨rfl, hb6⟩
  have HT := HT.later hb6
  have HR := Lib.hid (R0.below (hb6.mono (by simp; omega)))
  have HO := Lib.hid (own_keep' HO hb6)
  have hs9 : w5.heap.size + 1 ≤ w6.heap.size := by have := hb6.size; simpa using this
  obtain ⟨G0, hG0⟩ : ∃ k, k = w5.heap.size := ⟨_, rfl⟩
  rw [← hG0] at HT HU hs5 hs9 ⊢
  obtain ⟨W0, hW0⟩ : ∃ k, k = w3.heap.size := ⟨_, rfl⟩
  rw [← hW0] at HT HR HO hlo hs5 ⊢
  obtain ⟨BG, hBG⟩ : ∃ b, b = W0 + 1 := ⟨_, rfl⟩
  rw [← hBG] at HO hs5
  have hbg : W0 < BG := by omega
  clear hb6 R0 k00 k01 k02 k10 k11 k12 hG0 hW0 hBG
  have k00 := (HT.box 0).c 0
  have k01 := (HT.box 0).c 1
  have k02 := (HT.box 0).c 2
  have hmm := markCache_own LL A5 c5 yy KK BG 1 _ HO.out (by have := HLEN.out; omega)
  obtain ⟨mm, hm⟩ : ∃ mm : Nat, mm = 1 + 3 * yy.length := ⟨_, rfl⟩
  rw [← hm] at hmm
  go_wp2_with fail
  refine hmm.mono ?_
  rintro e w10 ⟨rfl, ho10, hg10⟩
  have HT := HT.grownX hg10 (fun q e => by have h1 := own_block HO.out q e; omega) (fun p hp e => by have h1 := HU.out p.1 e.symm; have h2 := own_block HO.out p.1 e.symm; simp only [List.mem_cons, List.not_mem_nil, or_false] at hp; rcases hp with rfl | rfl <;> dsimp only at h1 h2 <;> omega)
  have HR := Lib.hid (HR.out.keep fun p hp => World.cell?_of_block (hg10.block p.block (by omega) (fun e => by have h1 := own_block HO.out p.block e.symm; omega)))
  have HM : Hid (RowC 3 vg w10 w10.heap.size A5 (mrkT 1 yy.length)) := Lib.hid (RowC.of_own vg_len ho10 (mrkT_len _ _))
  have hs10 := Nat.le_trans hs9 hg10.size
  clear k00 k01 k02 hg10 hmm hs9 HO ho10 HU
  have k00 := (HT.box 0).c 0
  have k01 := (HT.box 0).c 1
  have k02 := (HT.box 0).c 2
  have hmd : ¬ ((mm : Nat) : Int) < 0 := by omega
  have hm2 : mm ≤ 6291457 := by have := HLEN.out; omega
  have HHE : ∀ W, RowC 3 vg W W.heap.size A5 (mrkT 1 yy.length) → Calls Try.prog 21 #[cav LL A5 yy.length c5 KK, .int .i64 1] W fun e w' => e = .returned (.int .i64 (mm : Int)) ∧ Below W.heap.size W w' := fun W h => by
    have h := heldCache_any LL A5 c5 1 yy.length KK W h (by have := HLEN.out; omega)
    rw [← hm] at h
    exact h
  clear hm
  go_wp2_with fail
  refine (HHE _ HM.out).mono ?_
  rintro e w11 ⟨rfl, hb11⟩
  have HT := HT.later hb11
  have HR := Lib.hid (HR.out.below (hb11.mono (by omega)))
  have HM := Lib.hid (HM.out.later hb11)
  have hs11 := Nat.le_trans hs10 hb11.size
  clear k00 k01 k02 hb11 hs10
  go_wp2_with fail
  refine (HIV _).mono ?_
  rintro e w13 ⟨A8, c8, rfl, ho13, hb13⟩
  have hbx : Below w13.heap.size w13 (w13.alloc (.cells #[.int .i64 LL, .slice A8 yy.length c8, .int .i64 KK] 29)) := by go_grown
  have HT := (HT.later hb13).new #[.int .i64 LL, .slice A8 yy.length c8, .int .i64 KK] 29
  have HR := Lib.hid ((HR.out.below (hb13.mono (by omega))).below (hbx.mono (by have := hb13.size; omega)))
  have HM := Lib.hid ((HM.out.later hb13).later hbx)
  have HO := Lib.hid (own_keep' ho13 hbx)
  have hs13 : G0 + 1 ≤ w13.heap.size := Nat.le_trans hs11 hb13.size
  clear hb13 hs11 ho13 hbx
  have k00 := (HT.box 0).c 0
  have k01 := (HT.box 0).c 1
  have k02 := (HT.box 0).c 2
  have k20 := (HT.box 2).c 0
  have k21 := (HT.box 2).c 1
  have k22 := (HT.box 2).c 2
  go_wp2_with fail
  refine (eqCache_same LL _ _ _ _ yy KK _ (RowC.of_own vg_len HO.out rfl) (HR.out.more (by simp; omega)) (by have := HLEN.out; omega)).mono ?_
  rintro e w14 ⟨rfl, hb14⟩
  have HT := HT.later hb14
  have HM := Lib.hid (HM.out.later hb14)
  clear k00 k01 k02 k20 k21 k22 hb14 HO HR
  have k10 := (HT.box 1).c 0
  have k11 := (HT.box 1).c 1
  have k12 := (HT.box 1).c 2
  go_wp2_with fail
  refine (HHE _ HM.out).mono ?_
  rintro e w15 ⟨rfl, hb15⟩
  have HT := HT.later hb15
  clear k10 k11 k12 hb15 HM HHE
  go_wp2_with fail
  go_ret
  exact ⟨rfl, HT.below⟩

set_option maxRecDepth 100000 in
theorem lifted (os : Os) (started : os.Started) (H : Type) (enc : TypeId × Value → H) :
    ReturnsInHanded {} Try.checked os 4 .any (Rows.fnExactNewCacheSpec.pre6 enc Try.prog Try.f4 Rows.fnExactNewCacheRow.domain false) (Rows.fnExactNewCacheSpec.post enc Try.prog Try.f4 false true false false) := by
  refine returnsInHanded_of_change (C := Try.checked) own started (by kernel_rfl) Try.func4
    (ChangeSpec.witness6 (enc := enc) (C := Try.checked) false ⟨#[], #[.int .i64 0], []⟩ 8 (by kernel_rfl) (by kernel_rfl) (by kernel_rfl) (by kernel_rfl)) ?_
  intro W base args ds gs before hval0 hW hcnd _
  have hval : ∀ (j : Nat) t v, Try.f4.params[j]? = some t → args[j]? = some v → Value.okWide Try.prog W .any base t v := hval0
  have hW' := hW
  obtain ⟨p, q, hA0, hV, rfl, hfz, hnd⟩ := hW
  have hA : DataW.TrodAll enc Try.prog W 0 (fun _ => true) true Try.f4.params.toList args.toList ds p := hA0
  rw [Try.params4] at hA hval
  obtain ⟨v0, vs0, d0, ds0, p0, q0, hargs, rfl, rfl, h0, r1000⟩ := trodAll_cons hA
  obtain ⟨rfl, rfl, rfl⟩ := trodAll_nil r1000
  obtain rfl : args = #[v0] := by cases args; simp_all
  obtain ⟨rfl, rfl⟩ := trodVars_none hV
  obtain ⟨a0, rfl, rfl, rfl, w0⟩ := open_int Try.underlying3 (hval 0 3 v0 rfl rfl) h0
  clear hA0
  refine (walk W a0 w0).mono fun e W' ⟨he, bel⟩ => ?_
  subst he
  exact ⟨_, rfl, _, _, _, [], _, [], hW', trodAll_mk1 (shut_bool Try.underlying4 _), (trodAll_cons_mk (shut_int Try.underlying3 w0) trodAll_mk0), rfl, bel.frame _, fun h => by cases h⟩

theorem proved : Rows.FnExactNewCacheSaid :=
  OpenClaim.holds_of_wide 4 Try.f4 rfl rfl rfl rfl rfl rfl rfl ⟨rfl, rfl, rfl, rfl, rfl⟩ rfl rfl rfl rfl rfl (by kernel_rfl) Try.func4 (by kernel_rfl)
    (of_decide_eq_true (by kernel_rfl)) (by unfold Func.isWrapper; first | (rw [if_pos (by decide +kernel)]; kernel_rfl) | (rw [if_neg (by decide +kernel)]; exact ⟨rfl, rfl⟩))
    (fun os started H enc _ => lifted os started H enc)
#print axioms proved
end Go.Proofs.Ytaelhbbfddcabaa.fnExactNewCache
