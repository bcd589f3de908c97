/-
  Proved: the law FnExactIsValidCache returns true for every input and its arguments read behind the call as they read before. Conditions: none of our own; those of the given row alone.
-/
import Derived.Test.YtaelhbbfddcabaaRows
import Derived.WalkKit
import Derived.ProofKit
import Derived.OpenShut
import Derived.ShutString
import Derived.SliceStrings
import Derived.ChangeOld
import Derived.Below
import Derived.Test.YtaelhbbfddcabaaMem
import Derived.Test.YtaelhbbfddcabaaInts
import Derived.Test.YtaelhbbfddcabaaFlat
import Derived.Test.YtaelhbbfddcabaaVbox
import Derived.Test.YtaelhbbfddcabaaHeld
import Derived.Test.YtaelhbbfddcabaaRowC
import Derived.Test.YtaelhbbfddcabaaKS
import Derived.Test.YtaelhbbfddcabaaStrS
import Derived.Test.YtaelhbbfddcabaaIntS
import Derived.Test.YtaelhbbfddcabaaSS
import Derived.Test.YtaelhbbfddcabaaPg
import Derived.Test.YtaelhbbfddcabaaVi
import Derived.Test.YtaelhbbfddcabaaVa
import Derived.Test.YtaelhbbfddcabaaVb
import Derived.Test.YtaelhbbfddcabaaVc
import Derived.Test.YtaelhbbfddcabaaVd
import Derived.Test.YtaelhbbfddcabaaVe
import Derived.Test.YtaelhbbfddcabaaVf
import Derived.Test.YtaelhbbfddcabaaVg
import Derived.Test.YtaelhbbfddcabaaVh
import Derived.Test.YtaelhbbfddcabaaWa
import Derived.Test.YtaelhbbfddcabaaWb
import Derived.Test.YtaelhbbfddcabaaWc
import Derived.Test.YtaelhbbfddcabaaWd
import Derived.Test.YtaelhbbfddcabaaWe
import Derived.Test.YtaelhbbfddcabaaWf
import Derived.Test.YtaelhbbfddcabaaWg
import Derived.Test.YtaelhbbfddcabaaWh
import Derived.Test.YtaelhbbfddcabaaWm
import Derived.Test.YtaelhbbfddcabaaWn
import Derived.Test.YtaelhbbfddcabaaWq
import Derived.Deep.RegionHeld3
import Derived.Deep.DeepCutAuto
import Derived.Handy
namespace Go.Proofs.Ytaelhbbfddcabaa.fnExactIsValidCache
open Go.ChangeShapes Go.WideShapes Go.ChangeAt Go.RowKit
open Go.ChangeMaps (open_string shut_string)
set_option linter.unusedVariables false

theorem own : ownKnob Try.prog.godebug = none := by kernel_rfl
theorem laidOut : laidOutB Try.prog = true := by kernel_rfl
theorem flat3 : FlatI Try.prog 3 (Try.prog.cellsOf 3) := by rw [show Try.prog.cellsOf 3 = 1 by kernel_rfl]; exact flat1 Try.underlying3
theorem cells60 : Try.prog.cellsOf 60 = 3 := by kernel_rfl
theorem flat60_ : FlatI Try.prog 60 3 := flatS Try.underlying60 cells60 (by exact ⟨by kernel_rfl, flat3, ⟨by kernel_rfl, flat3, ⟨by kernel_rfl, flat3, by unfold FlatFs; kernel_rfl⟩⟩⟩)
set_option maxRecDepth 100000 in
set_option maxHeartbeats 8000000 in
theorem walk (w : World) (l0 : Int) (w0 : (Lit.int .i64 l0).wf = true) (a0 : Option Addr) (c0 : Nat) (x0 : List V3) (r0 : RowC 3 vg w w.heap.size a0 x0) (m0 : x0.length ≤ maxLen) (q0 : ∀ z ∈ x0, wf3 z) (b0 : Int) (u0 : (Lit.int .i64 b0).wf = true) :
    Calls Try.prog 5 #[.agg #[.int .i64 l0, .slice a0 x0.length c0, .int .i64 b0]] w fun e w' => e = .returned (.bool true) ∧ Below w.heap.size w w' := by
  have HIN := Lib.hid r0
  have HMX := Lib.hid m0
  have HWF := Lib.hid q0
  clear r0 m0 u0 w0 q0
  have HT0 : Held w (w.alloc (.cells #[.int .i64 l0, .slice a0 x0.length c0, .int .i64 b0] 43)) [(w.heap.size, [.int .i64 l0, .slice a0 x0.length c0, .int .i64 b0])] := by
    have h := (Held.nil w).new #[.int .i64 l0, .slice a0 x0.length c0, .int .i64 b0] 43
    simpa only [World.size_alloc] using h
  have HI : ∀ {bs : List (Nat × List Value)} (W : World), Held w W bs → RowC 3 vg W W.heap.size a0 x0 := fun W h => (HIN.out.below h.below).more h.size
  have HDR : ∀ {W : World} {A : Option Addr} {xs : List V3}, RowC 3 vg W W.heap.size A xs → RowC 3 vg W.drew W.drew.heap.size A xs := fun h => h.keep fun _ _ => rfl
  have HS0 := szCache_any l0 a0 c0 x0 b0 1048576 (w.alloc (.cells #[.int .i64 l0, .slice a0 x0.length c0, .int .i64 b0] 43)) (by omega) (by have := HMX.out; unfold maxLen at this; omega)
  go_enter Try.func5, Try.ntmps5
  go_wp2_with fail
  refine HS0.mono ?_
  rintro e w1 ⟨hb1, hc⟩
  have HT := HT0.later hb1
  clear hb1 HT0 HS0
  rcases hc with ⟨hfit, rfl⟩ | ⟨hfit, rfl⟩
  · have hl : x0.length ≤ 1048576 := hfit
    obtain ⟨q, hq⟩ : ∃ q : Nat, q = 1048576 - x0.length := ⟨_, rfl⟩
    have hq0 : ¬ ((q : Nat) : Int) < 0 := by omega
    have hq1 : ((q : Nat) : Int) ≤ 1048576 := by omega
    rw [← hq]
    clear hq hfit
    obtain ⟨ans, hans⟩ : ∃ ans : Bool, ans = okC l0 x0 b0 := ⟨_, rfl⟩
    have HSV : ∀ W A c, RowC 3 vg W W.heap.size A x0 → Calls Try.prog 23 #[cav l0 A x0.length c b0] W fun e w' => e = .returned (.bool ans) ∧ Below W.heap.size W w' := fun W A c h => by rw [hans]; exact sIsValidC_any l0 A c x0 b0 W h (by omega)
    have HIV : ∀ W A, RowC 3 vg W W.heap.size A x0 → Calls Try.prog 16 #[cav l0 A x0.length x0.length b0] W fun e w' => e = .returned (.bool ans) ∧ Below W.heap.size W w' := fun W A h => by rw [hans]; exact isValidC_any l0 A x0.length x0 b0 W h HWF.out (by omega)
    have HLEN : Hid (x0.length ≤ 1048576) := Lib.hid hl
    clear hans hl
    have c0' := (HT.box 0).c 0
    have c1' := (HT.box 0).c 1
    have c2' := (HT.box 0).c 2
    go_wp2_with fail
    refine (toCache_own l0 a0 c0 x0 b0 _ (HI _ HT) (by have := HLEN.out; omega)).mono ?_
    rintro e w2 ⟨g2, rfl, _, ho2, hb2⟩
    have HT := HT.later hb2
    have HR2 : Hid (RowC 3 vg w2 w2.heap.size (some ⟨g2, 0, none⟩) x0) := Lib.hid (RowC.of_own vg_len ho2 rfl)
    clear hb2 c0' c1' c2' ho2
    go_wp2_with fail
    refine (HSV _ _ _ HR2.out).mono ?_
    rintro e w3 ⟨rfl, hb3⟩
    have HT := HT.later hb3
    clear hb3 HR2
    have c0' := (HT.box 0).c 0
    have c1' := (HT.box 0).c 1
    have c2' := (HT.box 0).c 2
    go_wp2_with fail
    refine (toCache_own l0 a0 c0 x0 b0 _ (HI _ HT) (by have := HLEN.out; omega)).mono ?_
    rintro e w4 ⟨g4, rfl, _, ho4, hb4⟩
    have HT := (HT.later hb4).new #[.int .i64 l0, .slice (some ⟨g4, 0, none⟩) x0.length x0.length, .int .i64 b0] 29
    have hbx : Below w4.heap.size w4 (w4.alloc (.cells #[.int .i64 l0, .slice (some ⟨g4, 0, none⟩) x0.length x0.length, .int .i64 b0] 29)) := by go_grown
    have HX := (RowC.of_own vg_len ho4 rfl : RowC 3 vg w4 w4.heap.size (some ⟨g4, 0, none⟩) x0).later hbx
    clear hb4 ho4 c0' c1' c2' hbx
    have c0' := (HT.box 0).c 0
    have c1' := (HT.box 0).c 1
    have c2' := (HT.box 0).c 2
    go_wp2_with fail
    refine (HIV _ _ HX).mono ?_
    rintro e w5 ⟨rfl, hb5⟩
    have HT := HT.later hb5
    have HX := HX.later hb5
    clear hb5 c0' c1' c2'
    obtain ⟨X0, hX0⟩ : ∃ k, k = w4.heap.size := ⟨_, rfl⟩
    rw [← hX0] at HT ⊢
    clear hX0
    have HC : ∀ W, Held w W [(X0, [.int .i64 l0, .slice (some ⟨g4, 0, none⟩) x0.length x0.length, .int .i64 b0]), (w.heap.size, [.int .i64 l0, .slice a0 x0.length c0, .int .i64 b0])] → (W.cell? ⟨X0, 0, none⟩ = some (.int .i64 l0) ∧ W.cell? ⟨X0, 1, none⟩ = some (.slice (some ⟨g4, 0, none⟩) x0.length x0.length) ∧ W.cell? ⟨X0, 2, none⟩ = some (.int .i64 b0) ∧ W.cell? ⟨w.heap.size, 0, none⟩ = some (.int .i64 l0) ∧ W.cell? ⟨w.heap.size, 1, none⟩ = some (.slice a0 x0.length c0) ∧ W.cell? ⟨w.heap.size, 2, none⟩ = some (.int .i64 b0)) := fun W h => ⟨(h.box 0).c 0, (h.box 0).c 1, (h.box 0).c 2, (h.box 1).c 0, (h.box 1).c 1, (h.box 1).c 2⟩
    cases ans
    all_goals
      go_wp2_with fail
      go_region_held3 (fun w' => w'.cell? ⟨X0, 0, none⟩ = some (.int .i64 l0) ∧ w'.cell? ⟨X0, 1, none⟩ = some (.slice (some ⟨g4, 0, none⟩) x0.length x0.length) ∧ w'.cell? ⟨X0, 2, none⟩ = some (.int .i64 b0) ∧ w'.cell? ⟨w.heap.size, 0, none⟩ = some (.int .i64 l0) ∧ w'.cell? ⟨w.heap.size, 1, none⟩ = some (.slice a0 x0.length c0) ∧ w'.cell? ⟨w.heap.size, 2, none⟩ = some (.int .i64 b0))
        (first | (with_reducible exact HC _ HT) | (with_reducible exact HC _ HT.drew))
        (first | (go_at_call 24; refine (toCache_own l0 a0 c0 x0 b0 _ (by first | with_reducible exact HI _ HT | with_reducible exact HI _ HT.drew) (by have := HLEN.out; omega)).mono ?_; rintro e w1 ⟨g6, rfl, _, ho6, hb1⟩; have hm6 := (RowC.of_own vg_len ho6 rfl : RowC 3 vg w1 w1.heap.size (some ⟨g6, 0, none⟩) x0); clear ho6; (first | (have HX := HX.later hb1) | (have HX := (HDR HX).later hb1)); (first | (have HT := HT.later hb1) | (have HT := HT.drew.later hb1))) | (go_at_call 19; refine (eqCache_same l0 _ _ _ _ x0 b0 _ (by first | with_reducible exact HX | with_reducible exact HDR HX) (by first | with_reducible exact hm6 | with_reducible exact HDR hm6) (by have := HLEN.out; omega)).mono ?_; rintro e w1 ⟨rfl, hb1⟩; (first | (have HT := HT.later hb1) | (have HT := HT.drew.later hb1))))
      go_wp2
      go_ret
      exact ⟨rfl, HT.below⟩
  · clear hfit HDR
    go_wp2_with fail
    go_ret
    exact ⟨rfl, HT.below⟩

set_option maxRecDepth 100000 in
theorem lifted (os : Os) (started : os.Started) (H : Type) (enc : TypeId × Value → H) :
    ReturnsInHanded {} Try.checked os 5 .any (Rows.fnExactIsValidCacheSpec.pre6 enc Try.prog Try.f5 Rows.fnExactIsValidCacheRow.domain false) (Rows.fnExactIsValidCacheSpec.post enc Try.prog Try.f5 false true false false) := by
  refine returnsInHanded_of_change (C := Try.checked) own started (by kernel_rfl) Try.func5
    (ChangeSpec.witness6 (enc := enc) (C := Try.checked) false ⟨#[], #[.agg #[.int .i64 0, .slice none 0 0, .int .i64 0]], []⟩ 8 (by kernel_rfl) (by kernel_rfl) (by kernel_rfl) (by kernel_rfl)) ?_
  intro W base args ds gs before hval0 hW hcnd _
  have hval : ∀ (j : Nat) t v, Try.f5.params[j]? = some t → args[j]? = some v → Value.okWide Try.prog W .any base t v := hval0
  have hW' := hW
  obtain ⟨p, q, hA0, hV, rfl, hfz, hnd⟩ := hW
  have hA : DataW.TrodAll enc Try.prog W 0 (fun _ => true) true Try.f5.params.toList args.toList ds p := hA0
  rw [Try.params5] at hA hval
  obtain ⟨v0, vs0, d0, ds0, p0, q0, hargs, rfl, rfl, h0, r1000⟩ := trodAll_cons hA
  obtain ⟨rfl, rfl, rfl⟩ := trodAll_nil r1000
  obtain rfl : args = #[v0] := by cases args; simp_all
  obtain ⟨rfl, rfl⟩ := trodVars_none hV
  have k0 := h0
  have lt0 : ∀ x ∈ p0, x.block < W.heap.size := by obtain ⟨m, hm⟩ := k0; exact DataW.trod_lt m _ _ _ hm
  have hv0 := hval 0 43 v0 rfl rfl
  obtain ⟨s0, t0, y0, n0, X0, Y0, Z0, rfl, hs0, ht0, hy0⟩ := open_trio (P := Try.prog) (t := 43) Try.underlying43 (by kernel_rfl) rfl rfl rfl (by kernel_rfl) (by kernel_rfl) (by kernel_rfl) hv0 h0
  obtain ⟨l0, e0, _, w0⟩ := DataW.trod_int Try.underlying3 hs0
  simp at e0
  subst e0
  obtain ⟨b0, e0, _, u0⟩ := DataW.trod_int Try.underlying3 hy0
  simp at e0
  subst e0
  obtain ⟨a0, c0, x0, rfl, r0, m0, q0⟩ := rowCW_of _ vg wf3 vg_v3 wf3_v3 Try.underlying41 (by kernel_rfl) flat60_ (by omega) ht0
  clear hA0
  refine (walk W l0 w0 a0 c0 x0 r0 m0 q0 b0 u0).mono fun e W' ⟨he, bel⟩ => ?_
  subst he
  exact ⟨_, rfl, _, _, _, [], _, [], hW', trodAll_mk1 (shut_bool Try.underlying4 _), (trodAll_cons_mk (Below.trod laidOut (by kernel_rfl) (of_decide_eq_true (by kernel_rfl)) k0 bel lt0) trodAll_mk0), rfl, bel.frame _, fun h => by cases h⟩

theorem proved : Rows.FnExactIsValidCacheSaid :=
  OpenClaim.holds_of_wide 5 Try.f5 rfl rfl rfl rfl rfl rfl rfl ⟨rfl, rfl, rfl, rfl, rfl⟩ rfl rfl rfl rfl rfl (by kernel_rfl) Try.func5 (by kernel_rfl)
    (of_decide_eq_true (by kernel_rfl)) (by unfold Func.isWrapper; first | (rw [if_pos (by decide +kernel)]; kernel_rfl) | (rw [if_neg (by decide +kernel)]; exact ⟨rfl, rfl⟩))
    (fun os started H enc _ => lifted os started H enc)
#print axioms proved
end Go.Proofs.Ytaelhbbfddcabaa.fnExactIsValidCache
