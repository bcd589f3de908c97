/-
  Proved: the law FnExactVertexPoint returns true for every input and its arguments read behind the call as they read before. Conditions: none of our own; those of the given row alone.
-/
import Derived.Test.YtdefhepagpgnaaaRows
import Derived.WalkKit
import Derived.ProofKit
import Derived.OpenShut
import Derived.ShutString
import Derived.SliceStrings
import Derived.ChangeOld
import Derived.Below
import Derived.Test.YtdefhepagpgnaaaMem
import Derived.Test.YtdefhepagpgnaaaInts
import Derived.Test.YtdefhepagpgnaaaFlat
import Derived.Test.YtdefhepagpgnaaaVbox
import Derived.Test.YtdefhepagpgnaaaVec
import Derived.Test.YtdefhepagpgnaaaVlaw
import Derived.Test.YtdefhepagpgnaaaHeld
import Derived.Test.YtdefhepagpgnaaaRowC
import Derived.Test.YtdefhepagpgnaaaIntS
import Derived.Test.YtdefhepagpgnaaaVecS
import Derived.Test.YtdefhepagpgnaaaSS
import Derived.Test.YtdefhepagpgnaaaMkA
import Derived.Test.YtdefhepagpgnaaaMkB
import Derived.Test.YtdefhepagpgnaaaMkC
import Derived.Test.YtdefhepagpgnaaaMkD
import Derived.Test.YtdefhepagpgnaaaMF
import Derived.Test.YtdefhepagpgnaaaMG
import Derived.Test.YtdefhepagpgnaaaMH
import Derived.Test.YtdefhepagpgnaaaMM
import Derived.Test.YtdefhepagpgnaaaMN
import Derived.Test.YtdefhepagpgnaaaMV
import Derived.Test.YtdefhepagpgnaaaMW
import Derived.Test.YtdefhepagpgnaaaMVF
import Derived.Test.YtdefhepagpgnaaaMT
import Derived.Test.YtdefhepagpgnaaaME
import Derived.Test.YtdefhepagpgnaaaMEF
import Derived.Test.YtdefhepagpgnaaaShelf
import Derived.Test.YtdefhepagpgnaaaMSo
import Derived.Test.YtdefhepagpgnaaaMSP
import Derived.Test.YtdefhepagpgnaaaMP
import Derived.Test.YtdefhepagpgnaaaMEd
import Derived.Test.YtdefhepagpgnaaaMLw
import Derived.Test.YtdefhepagpgnaaaMNb
import Derived.Test.YtdefhepagpgnaaaMB
import Derived.Test.YtdefhepagpgnaaaMBd
import Derived.Test.YtdefhepagpgnaaaKp
import Derived.Test.YtdefhepagpgnaaaKa
import Derived.Test.YtdefhepagpgnaaaKb
import Derived.Test.YtdefhepagpgnaaaKc
import Derived.Test.YtdefhepagpgnaaaKs
import Derived.Test.YtdefhepagpgnaaaKt
import Derived.Test.YtdefhepagpgnaaaKv
import Derived.Test.YtdefhepagpgnaaaKw
import Derived.Deep.RegionHeld3
import Derived.Deep.DeepCutAuto
import Derived.Handy
namespace Go.Proofs.Ytdefhepagpgnaaa.fnExactVertexPoint
open Go.ChangeShapes Go.WideShapes Go.ChangeAt Go.RowKit
open Go.ChangeMaps (open_string shut_string)
set_option linter.unusedVariables false

theorem own : ownKnob Try.prog.godebug = none := by kernel_rfl
theorem laidOut : laidOutB Try.prog = true := by kernel_rfl
theorem flat3 : FlatI Try.prog 3 (Try.prog.cellsOf 3) := by rw [show Try.prog.cellsOf 3 = 1 by kernel_rfl]; exact flat1 Try.underlying3
theorem cells118 : Try.prog.cellsOf 118 = 3 := by kernel_rfl
theorem flat118_ : FlatI Try.prog 118 3 := flatS Try.underlying118 cells118 (by exact ⟨by kernel_rfl, flat3, ⟨by kernel_rfl, flat3, ⟨by kernel_rfl, flat3, by unfold FlatFs; kernel_rfl⟩⟩⟩)
set_option maxRecDepth 100000 in
set_option maxHeartbeats 8000000 in
theorem walk (w : World) (a0 b0 : Option Addr) (c0 d0 : Nat) (x0 : List V3) (y0 : List (List Int)) (r0 : MeshIn w a0 b0 x0 y0) (m0 : x0.length ≤ maxLen ∧ y0.length ≤ maxLen ∧ ∀ xs ∈ y0, xs.length ≤ maxLen) (a1 : Int) (w1 : (Lit.int .i64 a1).wf = true) :
    Calls Try.prog 7 #[mv a0 b0 x0.length c0 y0.length d0, .int .i64 a1] w fun e w' => e = .returned (.bool true) ∧ Below w.heap.size w w' := by
  have HIN := Lib.hid r0
  have HMX := Lib.hid m0
  clear r0 m0
  have HT0 : Held w (w.alloc (.cells #[.slice a0 x0.length c0, .slice b0 y0.length d0] 45)) [(w.heap.size, [.slice a0 x0.length c0, .slice b0 y0.length d0])] := by
    have h := (Held.nil w).new #[.slice a0 x0.length c0, .slice b0 y0.length d0] 45
    simpa only [World.size_alloc] using h
  have HI : ∀ {bs : List (Nat × List Value)} (W : World), Held w W bs → MeshIn W a0 b0 x0 y0 := fun W h => ⟨(HIN.out.1.below h.below).more h.size, (HIN.out.2.below h.below).more h.size⟩
  have HS0 := szMesh_any a0 b0 c0 d0 x0 y0 1048576 _ (HI _ HT0).2 (by omega) (by omega) HMX.out.1 HMX.out.2.1 HMX.out.2.2
  by_cases hfit : ((x0.length + (y0.length + sumL y0) : Nat) : Int) ≤ 1048576
  · have HF : Hid (MeshFits x0 y0) := Lib.hid ⟨by omega, by omega, by omega⟩
    rw [if_pos hfit] at HS0
    obtain ⟨q, hq⟩ : ∃ q : Int, q = 1048576 - ((x0.length + (y0.length + sumL y0) : Nat) : Int) := ⟨_, rfl⟩
    rw [← hq] at HS0
    have hq0 : ¬ q < 0 := by omega
    clear hq hfit
    go_enter Try.func7, Try.ntmps7
    go_wp2_with fail
    refine HS0.mono ?_
    rintro e w1 ⟨rfl, hb1⟩
    have HT := HT0.later hb1
    clear hb1 HT0 HS0
    obtain ⟨v, hv⟩ : ∃ v, v = vpL x0 y0 a1 := ⟨_, rfl⟩
    have HSV : ∀ W A B c d, MeshIn W A B x0 y0 → Calls Try.prog 27 #[mv A B x0.length c y0.length d, .int .i64 a1] W (VecOut v.1 v.2.1 v.2.2 W) := fun W A B c d h => by rw [hv]; exact sVertexPoint_any A B c d x0 y0 a1 W h HF.out
    have HIV : ∀ W A B c d, MeshIn W A B x0 y0 → Calls Try.prog 28 #[mv A B x0.length c y0.length d, .int .i64 a1] W (VecOut v.1 v.2.1 v.2.2 W) := fun W A B c d h => by rw [hv]; exact vertexPoint_any A B c d x0 y0 a1 W h HF.out
    clear hv
    have c0' := (HT.box 0).c 0
    have c1' := (HT.box 0).c 1
    go_wp2_with fail
    refine (toMesh_rd a0 b0 c0 d0 x0 y0 _ (HI _ HT) HF.out).mono ?_
    rintro e w2 ⟨A2, B2, rfl, hb2, hm2⟩
    have HT := HT.later hb2
    clear hb2 c0' c1'
    go_wp2_with fail
    refine (HSV _ _ _ _ _ hm2).mono ?_
    rintro e w3 ⟨rfl, hb3⟩
    have HT := (HT.later hb3).new #[.int .i64 v.1, .int .i64 v.2.1, .int .i64 v.2.2] 37
    obtain ⟨V0, hV0⟩ : ∃ k, k = w3.heap.size := ⟨_, rfl⟩
    rw [← hV0] at HT
    have HV0 := Lib.hid hV0
    clear hb3 hm2 hV0
    have c0' := (HT.box 1).c 0
    have c1' := (HT.box 1).c 1
    go_wp2_with fail
    rw [← HV0.out]
    refine (toMesh_rd a0 b0 c0 d0 x0 y0 _ (HI _ HT) HF.out).mono ?_
    rintro e w4 ⟨A4, B4, rfl, hb4, hm4⟩
    have HT := (HT.later hb4).new #[.slice A4 x0.length x0.length, .slice B4 y0.length y0.length] 26
    have HX := hm4.alloc (.cells #[.slice A4 x0.length x0.length, .slice B4 y0.length y0.length] 26)
    obtain ⟨X0, hX0⟩ : ∃ k, k = w4.heap.size := ⟨_, rfl⟩
    rw [← hX0] at HT
    have HX0 := Lib.hid hX0
    clear hb4 hm4 c0' c1' hX0
    have c0' := (HT.box 0).c 0
    have c1' := (HT.box 0).c 1
    go_wp2_with fail
    rw [← HX0.out]
    refine (HIV _ _ _ _ _ HX).mono ?_
    rintro e w5 ⟨rfl, hb5⟩
    have HT := (HT.later hb5).new #[.int .i64 v.1, .int .i64 v.2.1, .int .i64 v.2.2] 37
    have HX := (HX.later hb5).alloc (.cells #[.int .i64 v.1, .int .i64 v.2.1, .int .i64 v.2.2] 37)
    obtain ⟨G0, hG0⟩ : ∃ k, k = w5.heap.size := ⟨_, rfl⟩
    rw [← hG0] at HT
    have HG0 := Lib.hid hG0
    clear hb5 c0' c1' hG0
    have k0 := (HT.box 0).c 0
    have k1 := (HT.box 0).c 1
    have k2 := (HT.box 0).c 2
    have j0 := (HT.box 2).c 0
    have j1 := (HT.box 2).c 1
    have j2 := (HT.box 2).c 2
    go_wp2_with fail
    rw [← HG0.out]
    refine (eqVec_same v.1 v.2.1 v.2.2 _).mono ?_
    rintro e w6 ⟨rfl, hb6⟩
    have HT := (HT.later hb6).pick (cs := [(X0, [.slice A4 x0.length x0.length, .slice B4 y0.length y0.length]), (w.heap.size, [.slice a0 x0.length c0, .slice b0 y0.length d0])]) (by simp)
    have HX := HX.later hb6
    clear hb6 k0 k1 k2 j0 j1 j2 HV0 HX0 HG0
    have HC : ∀ W, Held w W [(X0, [.slice A4 x0.length x0.length, .slice B4 y0.length y0.length]), (w.heap.size, [.slice a0 x0.length c0, .slice b0 y0.length d0])] → (W.cell? ⟨X0, 0, none⟩ = some (.slice A4 x0.length x0.length) ∧ W.cell? ⟨X0, 1, none⟩ = some (.slice B4 y0.length y0.length) ∧ W.cell? ⟨w.heap.size, 0, none⟩ = some (.slice a0 x0.length c0) ∧ W.cell? ⟨w.heap.size, 1, none⟩ = some (.slice b0 y0.length d0)) := fun W h => ⟨(h.box 0).c 0, (h.box 0).c 1, (h.box 1).c 0, (h.box 1).c 1⟩
    go_wp2_with fail
    go_region_held3 (fun w' => w'.cell? ⟨X0, 0, none⟩ = some (.slice A4 x0.length x0.length) ∧ w'.cell? ⟨X0, 1, none⟩ = some (.slice B4 y0.length y0.length) ∧ w'.cell? ⟨w.heap.size, 0, none⟩ = some (.slice a0 x0.length c0) ∧ w'.cell? ⟨w.heap.size, 1, none⟩ = some (.slice b0 y0.length d0))
     (first | (with_reducible exact HC _ HT) | (with_reducible exact HC _ HT.drew))
     (first | (go_at_call 21; refine (toMesh_rd a0 b0 c0 d0 x0 y0 _ (by first | with_reducible exact HI _ HT | with_reducible exact HI _ HT.drew) HF.out).mono ?_; rintro e w1 ⟨A6, B6, rfl, hb1, hm6⟩; (first | (have HX := HX.later hb1) | (have HX := HX.drew.later hb1)); (first | (have HT := HT.later hb1) | (have HT := HT.drew.later hb1))) | (go_at_call 24; refine (eqMesh_same _ _ _ _ _ _ _ _ x0 y0 _ (by first | with_reducible exact HX | with_reducible exact HX.drew) (by first | with_reducible exact hm6 | with_reducible exact hm6.drew) HF.out).mono ?_; rintro e w1 ⟨rfl, hb1⟩; (first | (have HT := HT.later hb1) | (have HT := HT.drew.later hb1))))
    all_goals
      clear HC HX
      go_wp2
      go_ret
      exact ⟨rfl, HT.below⟩
  · rw [if_neg hfit] at HS0
    clear hfit
    go_enter Try.func7, Try.ntmps7
    go_wp2_with fail
    refine HS0.mono ?_
    rintro e w1 ⟨rfl, hb1⟩
    have HT := HT0.later hb1
    clear hb1 HT0 HS0
    go_wp2_with fail
    go_ret
    exact ⟨rfl, HT.below⟩

set_option maxRecDepth 100000 in
theorem lifted (os : Os) (started : os.Started) (H : Type) (enc : TypeId × Value → H) :
    ReturnsInHanded {} Try.checked os 7 .any (Rows.fnExactVertexPointSpec.pre6 enc Try.prog Try.f7 Rows.fnExactVertexPointRow.domain false) (Rows.fnExactVertexPointSpec.post enc Try.prog Try.f7 false true false false) := by
  refine returnsInHanded_of_change (C := Try.checked) own started (by kernel_rfl) Try.func7
    (ChangeSpec.witness6 (enc := enc) (C := Try.checked) false ⟨#[], #[.agg #[.slice none 0 0, .slice none 0 0], .int .i64 0], []⟩ 8 (by kernel_rfl) (by kernel_rfl) (by kernel_rfl) (by kernel_rfl)) ?_
  intro W base args ds gs before hval0 hW hcnd _
  have hval : ∀ (j : Nat) t v, Try.f7.params[j]? = some t → args[j]? = some v → Value.okWide Try.prog W .any base t v := hval0
  have hW' := hW
  obtain ⟨p, q, hA0, hV, rfl, hfz, hnd⟩ := hW
  have hA : DataW.TrodAll enc Try.prog W 0 (fun _ => true) true Try.f7.params.toList args.toList ds p := hA0
  rw [Try.params7] at hA hval
  obtain ⟨v0, vs0, d0, ds0, p0, q0, hargs, rfl, rfl, h0, r1000⟩ := trodAll_cons hA
  obtain ⟨v1, vs1, d1, ds1, p1, q1, rfl, rfl, rfl, h1, r1001⟩ := trodAll_cons r1000
  obtain ⟨rfl, rfl, rfl⟩ := trodAll_nil r1001
  obtain rfl : args = #[v0, v1] := by cases args; simp_all
  obtain ⟨rfl, rfl⟩ := trodVars_none hV
  have k0 := h0
  have lt0 : ∀ x ∈ p0, x.block < W.heap.size := by obtain ⟨m, hm⟩ := k0; exact DataW.trod_lt m _ _ _ hm
  have hv0 := hval 0 45 v0 rfl rfl
  obtain ⟨s0, t0, n0, X0, Y0, rfl, hs0, ht0⟩ := open_pair (P := Try.prog) (t := 45) Try.underlying45 (by kernel_rfl) rfl rfl (by kernel_rfl) (by kernel_rfl) hv0 h0
  obtain ⟨a0, c0, x0, rfl, r0, m0⟩ := rowC_of v3 vg vg_v3 Try.underlying43 (by kernel_rfl) flat118_ (by omega) hs0
  obtain ⟨b0, d0, y0, rfl, q0_, o0, u0⟩ := rowSS_of Try.underlying24 Try.underlying54 Try.underlying3 (by kernel_rfl) (by kernel_rfl) ht0
  obtain ⟨a1, rfl, rfl, rfl, w1⟩ := open_int Try.underlying3 (hval 1 3 v1 rfl rfl) h1
  clear hA0
  refine (walk W a0 b0 c0 d0 x0 y0 ⟨r0, q0_⟩ ⟨m0, o0, u0⟩ a1 w1).mono fun e W' ⟨he, bel⟩ => ?_
  subst he
  exact ⟨_, rfl, _, _, _, [], _, [], hW', trodAll_mk1 (shut_bool Try.underlying4 _), (trodAll_cons_mk (Below.trod laidOut (by kernel_rfl) (of_decide_eq_true (by kernel_rfl)) k0 bel lt0) (trodAll_cons_mk (shut_int Try.underlying3 w1) trodAll_mk0)), rfl, bel.frame _, fun h => by cases h⟩

theorem proved : Rows.FnExactVertexPointSaid :=
  OpenClaim.holds_of_wide 7 Try.f7 rfl rfl rfl rfl rfl rfl rfl ⟨rfl, rfl, rfl, rfl, rfl⟩ rfl rfl rfl rfl rfl (by kernel_rfl) Try.func7 (by kernel_rfl)
    (of_decide_eq_true (by kernel_rfl)) (by unfold Func.isWrapper; first | (rw [if_pos (by decide +kernel)]; kernel_rfl) | (rw [if_neg (by decide +kernel)]; exact ⟨rfl, rfl⟩))
    (fun os started H enc _ => lifted os started H enc)
#print axioms proved
end Go.Proofs.Ytdefhepagpgnaaa.fnExactVertexPoint
