/-
  Proved: the law FnExactNeighbors returns true for every input and its arguments read behind the call as they read before. Conditions: none of our own; those of the given row alone.
-/
import Derived.Test.YtdefhepagpgnaaaRows
import Derived.WalkKit
import Derived.ProofKit
import Derived.OpenShut
import Derived.ShutString
import Derived.SliceStrings
import Derived.ChangeOld
import Derived.Below
import Derived.Test.YtdefhepagpgnaaaMem
import Derived.Test.YtdefhepagpgnaaaInts
import Derived.Test.YtdefhepagpgnaaaFlat
import Derived.Test.YtdefhepagpgnaaaVbox
import Derived.Test.YtdefhepagpgnaaaVec
import Derived.Test.YtdefhepagpgnaaaVlaw
import Derived.Test.YtdefhepagpgnaaaHeld
import Derived.Test.YtdefhepagpgnaaaRowC
import Derived.Test.YtdefhepagpgnaaaIntS
import Derived.Test.YtdefhepagpgnaaaVecS
import Derived.Test.YtdefhepagpgnaaaSS
import Derived.Test.YtdefhepagpgnaaaMkA
import Derived.Test.YtdefhepagpgnaaaMkB
import Derived.Test.YtdefhepagpgnaaaMkC
import Derived.Test.YtdefhepagpgnaaaMkD
import Derived.Test.YtdefhepagpgnaaaMF
import Derived.Test.YtdefhepagpgnaaaMG
import Derived.Test.YtdefhepagpgnaaaMH
import Derived.Test.YtdefhepagpgnaaaMM
import Derived.Test.YtdefhepagpgnaaaMN
import Derived.Test.YtdefhepagpgnaaaMV
import Derived.Test.YtdefhepagpgnaaaMW
import Derived.Test.YtdefhepagpgnaaaMVF
import Derived.Test.YtdefhepagpgnaaaMT
import Derived.Test.YtdefhepagpgnaaaME
import Derived.Test.YtdefhepagpgnaaaMEF
import Derived.Test.YtdefhepagpgnaaaShelf
import Derived.Test.YtdefhepagpgnaaaMSo
import Derived.Test.YtdefhepagpgnaaaMSP
import Derived.Test.YtdefhepagpgnaaaMP
import Derived.Test.YtdefhepagpgnaaaMEd
import Derived.Test.YtdefhepagpgnaaaMLw
import Derived.Test.YtdefhepagpgnaaaMNb
import Derived.Deep.RegionHeld3
import Derived.Deep.DeepCutAuto
import Derived.Handy
namespace Go.Proofs.Ytdefhepagpgnaaa.fnExactNeighbors
open Go.ChangeShapes Go.WideShapes Go.ChangeAt Go.RowKit
open Go.ChangeMaps (open_string shut_string)
set_option linter.unusedVariables false

theorem own : ownKnob Try.prog.godebug = none := by kernel_rfl
theorem laidOut : laidOutB Try.prog = true := by kernel_rfl
theorem flat3 : FlatI Try.prog 3 (Try.prog.cellsOf 3) := by rw [show Try.prog.cellsOf 3 = 1 by kernel_rfl]; exact flat1 Try.underlying3
theorem cells118 : Try.prog.cellsOf 118 = 3 := by kernel_rfl
theorem flat118_ : FlatI Try.prog 118 3 := flatS Try.underlying118 cells118 (by exact ⟨by kernel_rfl, flat3, ⟨by kernel_rfl, flat3, ⟨by kernel_rfl, flat3, by unfold FlatFs; kernel_rfl⟩⟩⟩)
set_option maxRecDepth 100000 in
set_option maxHeartbeats 8000000 in
theorem walk (w : World) (a0 b0 : Option Addr) (c0 d0 : Nat) (x0 : List V3) (y0 : List (List Int)) (r0 : MeshIn w a0 b0 x0 y0) (m0 : x0.length ≤ maxLen ∧ y0.length ≤ maxLen ∧ ∀ xs ∈ y0, xs.length ≤ maxLen) (a1 : Int) (w1 : (Lit.int .i64 a1).wf = true) :
    Calls Try.prog 8 #[mv a0 b0 x0.length c0 y0.length d0, .int .i64 a1] w fun e w' => e = .returned (.bool true) ∧ Below w.heap.size w w' := by
  have HIN := Lib.hid r0
  have HMX := Lib.hid m0
  clear r0 m0
  have HT0 : Held w (w.alloc (.cells #[.slice a0 x0.length c0, .slice b0 y0.length d0] 45)) [(w.heap.size, [.slice a0 x0.length c0, .slice b0 y0.length d0])] := by
    have h := (Held.nil w).new #[.slice a0 x0.length c0, .slice b0 y0.length d0] 45
    simpa only [World.size_alloc] using h
  have HI : ∀ {bs : List (Nat × List Value)} (W : World), Held w W bs → MeshIn W a0 b0 x0 y0 := fun W h => ⟨(HIN.out.1.below h.below).more h.size, (HIN.out.2.below h.below).more h.size⟩
  have HS0 := szMesh_any a0 b0 c0 d0 x0 y0 1048576 _ (HI _ HT0).2 (by omega) (by omega) HMX.out.1 HMX.out.2.1 HMX.out.2.2
  by_cases hfit : ((x0.length + (y0.length + sumL y0) : Nat) : Int) ≤ 1048576
  · have HF : Hid (MeshFits x0 y0) := Lib.hid ⟨by omega, by omega, by omega⟩
    rw [if_pos hfit] at HS0
    obtain ⟨q, hq⟩ : ∃ q : Int, q = 1048576 - ((x0.length + (y0.length + sumL y0) : Nat) : Int) := ⟨_, rfl⟩
    rw [← hq] at HS0
    have hq0 : ¬ q < 0 := by omega
    clear hq hfit
    go_enter Try.func8, Try.ntmps8
    go_wp2_with fail
    refine HS0.mono ?_
    rintro e w1 ⟨rfl, hb1⟩
    have HT := HT0.later hb1
    clear hb1 HT0 HS0
    obtain ⟨lst, hlst⟩ : ∃ l, l = nbM x0 y0 a1 := ⟨_, rfl⟩
    have HLB : lst.length ≤ 1048576 := by rw [hlst]; exact nbM_len _ _ _
    have HSV : ∀ W A B c d, MeshIn W A B x0 y0 → Calls Try.prog 29 #[mv A B x0.length c y0.length d, .int .i64 a1] W (IntOut W lst) := fun W A B c d h => by rw [hlst]; exact sNeighbors_any A B c d x0 y0 a1 W h HF.out
    have HIV : ∀ W A B c d, MeshIn W A B x0 y0 → Calls Try.prog 30 #[mv A B x0.length c y0.length d, .int .i64 a1] W (IntOut W lst) := fun W A B c d h => by rw [hlst]; exact neighbors_any A B c d x0 y0 a1 W h HF.out
    clear hlst
    have c0' := (HT.box 0).c 0
    have c1' := (HT.box 0).c 1
    go_wp2_with fail
    refine (toMesh_rd a0 b0 c0 d0 x0 y0 _ (HI _ HT) HF.out).mono ?_
    rintro e w2 ⟨A2, B2, rfl, hb2, hm2⟩
    have HT := HT.later hb2
    clear hb2 c0' c1'
    go_wp2_with fail
    refine (HSV _ _ _ _ _ hm2).mono ?_
    rintro e w3 ⟨A3, c3, rfl, ho3, hb3⟩
    have HT := HT.later hb3
    have R0 : Row I64 w3 w3.heap.size A3 lst := Row.of_own ho3
    clear hb3 hm2 ho3
    have c0' := (HT.box 0).c 0
    have c1' := (HT.box 0).c 1
    go_wp2_with fail
    refine (toMesh_any a0 b0 c0 d0 x0 y0 _ (HI _ HT) HF.out).mono ?_
    rintro e w4 ⟨g1, g2, ps, rfl, hb4, hsnd, hm4⟩
    have HU := Lib.hid hm4.under
    have HSN := Lib.hid hsnd
    have hlo : w.heap.size < w3.heap.size := (HT.box 0).lt
    have hlh : w3.heap.size ≤ w4.heap.size := hb4.size
    have R0 := R0.below hb4
    have HT := (HT.later hb4).new #[.slice (some ⟨g1, 0, none⟩) x0.length x0.length, .slice (some ⟨g2, 0, none⟩) y0.length y0.length] 26
    have HMO := Lib.hid (hm4.later (show Below w4.heap.size w4 (w4.alloc (.cells #[.slice (some ⟨g1, 0, none⟩) x0.length x0.length, .slice (some ⟨g2, 0, none⟩) y0.length y0.length] 26)) by go_grown))
    have R0 := R0.alloc hlh (.cells #[.slice (some ⟨g1, 0, none⟩) x0.length x0.length, .slice (some ⟨g2, 0, none⟩) y0.length y0.length] 26)
    clear hb4 hm4 c0' c1' hsnd
    have c0' := (HT.box 0).c 0
    have c1' := (HT.box 0).c 1
    have HX := HMO.out.read (by rw [HSN.out]; exact HF.out)
    rw [HSN.out] at HX
    go_wp2_with fail
    refine (HIV _ _ _ _ _ HX).mono ?_
    rintro e w5 ⟨A5, c5, rfl, ho5, hb5⟩
    rw [World.size_alloc] at ho5
    have HT := HT.later hb5
    have HX := HX.later hb5
    have HMO := Lib.hid (HMO.out.later hb5)
    have R0 := R0.below (hb5.mono (by simp; omega))
    have hs5 : w4.heap.size + 1 ≤ w5.heap.size := by have := hb5.size; simpa using this
    obtain ⟨X0, hX0⟩ : ∃ k, k = w4.heap.size := ⟨_, rfl⟩
    obtain ⟨lo, hLO⟩ : ∃ k, k = w3.heap.size := ⟨_, rfl⟩
    rw [← hX0] at HT HU hlh hs5 ho5 ⊢
    rw [← hLO] at HMO R0 hlo hlh
    clear hb5 c0' c1' hX0 hLO
    go_wp2_with fail
    refine (eqIntS_same _ _ _ _ lst _ (Row.of_own ho5) (R0.more (by omega)) (by omega)).mono ?_
    rintro e w6 ⟨rfl, hb6⟩
    have HT := HT.later hb6
    have HX := HX.later hb6
    have HMO := Lib.hid (HMO.out.later hb6)
    have HR := Lib.hid (R0.below (hb6.mono (by omega)))
    have HO := Lib.hid (own_keep' ho5 hb6)
    have hs6 : X0 + 1 ≤ w6.heap.size := Nat.le_trans hs5 hb6.size
    have HC : ∀ w0 W : World, Held w0 W [(X0, [.slice (some ⟨g1, 0, none⟩) x0.length x0.length, .slice (some ⟨g2, 0, none⟩) y0.length y0.length]), (w.heap.size, [.slice a0 x0.length c0, .slice b0 y0.length d0])] → (W.cell? ⟨X0, 0, none⟩ = some (.slice (some ⟨g1, 0, none⟩) x0.length x0.length) ∧ W.cell? ⟨X0, 1, none⟩ = some (.slice (some ⟨g2, 0, none⟩) y0.length y0.length) ∧ W.cell? ⟨w.heap.size, 0, none⟩ = some (.slice a0 x0.length c0) ∧ W.cell? ⟨w.heap.size, 1, none⟩ = some (.slice b0 y0.length d0)) := fun w0 W h => ⟨(h.box 0).c 0, (h.box 0).c 1, (h.box 1).c 0, (h.box 1).c 1⟩
    clear hb6 ho5 R0 hs5
    have HQ : Held w6 w6 [(X0, [.slice (some ⟨g1, 0, none⟩) x0.length x0.length, .slice (some ⟨g2, 0, none⟩) y0.length y0.length]), (w.heap.size, [.slice a0 x0.length c0, .slice b0 y0.length d0])] := ⟨Below.refl _ _, HT.2⟩
    have HI6 : ∀ {bs : List (Nat × List Value)} (W : World), Held w6 W bs → MeshIn W a0 b0 x0 y0 := fun W h => ⟨((HI _ HT).1.below h.below).more h.size, ((HI _ HT).2.below h.below).more h.size⟩
    go_upto_region 10 with fail
    go_cut [35] (fun z wx => z = .bool false ∧ Below w6.heap.size w6 wx)
    case first =>
      clear HT HMO HR HO
      go_region_held3 (fun w' => w'.cell? ⟨X0, 0, none⟩ = some (.slice (some ⟨g1, 0, none⟩) x0.length x0.length) ∧ w'.cell? ⟨X0, 1, none⟩ = some (.slice (some ⟨g2, 0, none⟩) y0.length y0.length) ∧ w'.cell? ⟨w.heap.size, 0, none⟩ = some (.slice a0 x0.length c0) ∧ w'.cell? ⟨w.heap.size, 1, none⟩ = some (.slice b0 y0.length d0))
       (first | (with_reducible exact HC _ _ HQ) | (with_reducible exact HC _ _ HQ.drew))
       (first | (go_at_call 21; refine (toMesh_rd a0 b0 c0 d0 x0 y0 _ (by first | with_reducible exact HI6 _ HQ | with_reducible exact HI6 _ HQ.drew) HF.out).mono ?_; rintro e w1 ⟨A6, B6, rfl, hb1, hm6⟩; (first | (have HX := HX.later hb1) | (have HX := HX.drew.later hb1)); (first | (have HQ := HQ.later hb1) | (have HQ := HQ.drew.later hb1))) | (go_at_call 24; refine (eqMesh_same _ _ _ _ _ _ _ _ x0 y0 _ (by first | with_reducible exact HX | with_reducible exact HX.drew) (by first | with_reducible exact hm6 | with_reducible exact hm6.drew) HF.out).mono ?_; rintro e w1 ⟨rfl, hb1⟩; (first | (have HQ := HQ.later hb1) | (have HQ := HQ.drew.later hb1))))
      all_goals (go_wp2_with fail; go_meet)
      all_goals (first | with_reducible exact ⟨rfl, HQ.below⟩ | with_reducible exact ⟨rfl, HQ.drew.below⟩)
    case rest =>
      clear HQ HC HX
      obtain ⟨rfl, hb7⟩ := hcut
      have HT := HT.later hb7
      have HMO := HMO.out.later hb7
      have HR := Lib.hid (HR.out.below (hb7.mono (by omega)))
      have HO := Lib.hid (own_keep' HO.out hb7)
      have hs7 := Nat.le_trans hs6 hb7.size
      clear hb7 hs6
      have c0' := (HT.box 0).c 0
      have c1' := (HT.box 0).c 1
      have hkk := markMesh_any lo X0 g1 g2 x0.length y0.length x0 ps _ HMO HU.out (by rw [HSN.out]; exact HF.out)
      rw [show ps.length = y0.length by rw [← HSN.out]; simp] at hkk
      obtain ⟨kk, hk⟩ : ∃ kk : Nat, kk = 1 + 3 * x0.length + sumL (ps.map Prod.snd) := ⟨_, rfl⟩
      rw [← hk] at hkk
      have hkd : decide ((kk : Int) < 0) = false := by simp
      clear hk
      go_wp2_with fail
      refine hkk.mono ?_
      rintro e w8 ⟨rfl, ht8⟩
      have HT := HT.turn ht8 (fun k h => by omega) (fun p hp h => by simp only [List.mem_cons, List.not_mem_nil, or_false] at hp; rcases hp with rfl | rfl <;> simp at h <;> omega)
      have HR := Lib.hid (HR.out.keep fun p hp => World.cell?_of_block (ht8.block (by omega) (by omega)))
      have HO := Lib.hid (own_turn HO.out ht8 (fun k h => by omega))
      have hs8 : X0 + 1 ≤ w8.heap.size := Nat.le_trans hs7 ht8.size
      clear ht8 hkk hs7 c0' c1' HMO HU HSN
      go_wp2_with fail
      refine (eqIntS_same _ _ _ _ lst _ (Row.of_own HO.out) (HR.out.more (by omega)) (by omega)).mono ?_
      rintro e w9 ⟨rfl, hb9⟩
      have HT := HT.later hb9
      have HR := Lib.hid (HR.out.below (hb9.mono (by omega)))
      have HO := Lib.hid (own_keep' HO.out hb9)
      have hs9 : X0 + 1 ≤ w9.heap.size := Nat.le_trans hs8 hb9.size
      clear hb9 hs8
      go_wp2_with fail
      refine (markIntO _ _ (X0 + 1) 1 lst _ HO.out (by omega)).mono ?_
      rintro e w10 ⟨rfl, ho10, hb10⟩
      have HT := HT.under hb10 (by omega) (fun p hp => by simp only [List.mem_cons, List.not_mem_nil, or_false] at hp; rcases hp with rfl | rfl <;> simp <;> omega)
      have HR := Lib.hid (HR.out.below (hb10.mono (by omega)))
      have HM : Hid (Row I64 w10 w10.heap.size A5 (cnt 1 lst.length)) := Lib.hid (Row.of_own ho10)
      have hs10 : X0 + 1 ≤ w10.heap.size := Nat.le_trans hs9 hb10.size
      clear hb10 ho10 hs9 HO
      go_wp2_with fail
      refine (heldIntM _ _ 1 lst.length _ HM.out (by omega)).mono ?_
      rintro e w11 ⟨rfl, hb11⟩
      have HT := HT.later hb11
      have HR := Lib.hid (HR.out.below (hb11.mono (by omega)))
      have HM := Lib.hid (HM.out.later hb11)
      have hs11 : X0 + 1 ≤ w11.heap.size := Nat.le_trans hs10 hb11.size
      clear hb11 hs10
      have c0' := (HT.box 1).c 0
      have c1' := (HT.box 1).c 1
      go_wp2_with fail
      refine (toMesh_rd a0 b0 c0 d0 x0 y0 _ (HI _ HT) HF.out).mono ?_
      rintro e w12 ⟨A7, B7, rfl, hb12, hm12⟩
      have HT := HT.later hb12
      have HR := Lib.hid (HR.out.below (hb12.mono (by omega)))
      have HM := Lib.hid (HM.out.later hb12)
      have hs12 : X0 + 1 ≤ w12.heap.size := Nat.le_trans hs11 hb12.size
      clear hb12 hs11 c0' c1'
      go_wp2_with fail
      refine (HIV _ _ _ _ _ hm12).mono ?_
      rintro e w13 ⟨A8, c8, rfl, ho13, hb13⟩
      have HT := HT.later hb13
      have HR := Lib.hid (HR.out.below (hb13.mono (by omega)))
      have HM := Lib.hid (HM.out.later hb13)
      have HO := Lib.hid ho13
      have hs13 : X0 + 1 ≤ w13.heap.size := Nat.le_trans hs12 hb13.size
      clear hb13 hs12 hm12 ho13
      go_wp2_with fail
      refine (eqIntS_same _ _ _ _ lst _ (Row.of_own HO.out) (HR.out.more (by omega)) (by omega)).mono ?_
      rintro e w14 ⟨rfl, hb14⟩
      have HT := HT.later hb14
      have HM := Lib.hid (HM.out.later hb14)
      clear hb14 HO HR
      go_wp2_with fail
      refine (heldIntM _ _ 1 lst.length _ HM.out (by omega)).mono ?_
      rintro e w15 ⟨rfl, hb15⟩
      have HT := HT.later hb15
      clear hb15 HM
      go_wp2_with fail
      go_ret
      exact ⟨rfl, HT.below⟩
  · rw [if_neg hfit] at HS0
    clear hfit
    go_enter Try.func8, Try.ntmps8
    go_wp2_with fail
    refine HS0.mono ?_
    rintro e w1 ⟨rfl, hb1⟩
    have HT := HT0.later hb1
    clear hb1 HT0 HS0
    go_wp2_with fail
    go_ret
    exact ⟨rfl, HT.below⟩

set_option maxRecDepth 100000 in
theorem lifted (os : Os) (started : os.Started) (H : Type) (enc : TypeId × Value → H) :
    ReturnsInHanded {} Try.checked os 8 .any (Rows.fnExactNeighborsSpec.pre6 enc Try.prog Try.f8 Rows.fnExactNeighborsRow.domain false) (Rows.fnExactNeighborsSpec.post enc Try.prog Try.f8 false true false false) := by
  refine returnsInHanded_of_change (C := Try.checked) own started (by kernel_rfl) Try.func8
    (ChangeSpec.witness6 (enc := enc) (C := Try.checked) false ⟨#[], #[.agg #[.slice none 0 0, .slice none 0 0], .int .i64 0], []⟩ 8 (by kernel_rfl) (by kernel_rfl) (by kernel_rfl) (by kernel_rfl)) ?_
  intro W base args ds gs before hval0 hW hcnd _
  have hval : ∀ (j : Nat) t v, Try.f8.params[j]? = some t → args[j]? = some v → Value.okWide Try.prog W .any base t v := hval0
  have hW' := hW
  obtain ⟨p, q, hA0, hV, rfl, hfz, hnd⟩ := hW
  have hA : DataW.TrodAll enc Try.prog W 0 (fun _ => true) true Try.f8.params.toList args.toList ds p := hA0
  rw [Try.params8] at hA hval
  obtain ⟨v0, vs0, d0, ds0, p0, q0, hargs, rfl, rfl, h0, r1000⟩ := trodAll_cons hA
  obtain ⟨v1, vs1, d1, ds1, p1, q1, rfl, rfl, rfl, h1, r1001⟩ := trodAll_cons r1000
  obtain ⟨rfl, rfl, rfl⟩ := trodAll_nil r1001
  obtain rfl : args = #[v0, v1] := by cases args; simp_all
  obtain ⟨rfl, rfl⟩ := trodVars_none hV
  have k0 := h0
  have lt0 : ∀ x ∈ p0, x.block < W.heap.size := by obtain ⟨m, hm⟩ := k0; exact DataW.trod_lt m _ _ _ hm
  have hv0 := hval 0 45 v0 rfl rfl
  obtain ⟨s0, t0, n0, X0, Y0, rfl, hs0, ht0⟩ := open_pair (P := Try.prog) (t := 45) Try.underlying45 (by kernel_rfl) rfl rfl (by kernel_rfl) (by kernel_rfl) hv0 h0
  obtain ⟨a0, c0, x0, rfl, r0, m0⟩ := rowC_of v3 vg vg_v3 Try.underlying43 (by kernel_rfl) flat118_ (by omega) hs0
  obtain ⟨b0, d0, y0, rfl, q0_, o0, u0⟩ := rowSS_of Try.underlying24 Try.underlying54 Try.underlying3 (by kernel_rfl) (by kernel_rfl) ht0
  obtain ⟨a1, rfl, rfl, rfl, w1⟩ := open_int Try.underlying3 (hval 1 3 v1 rfl rfl) h1
  clear hA0
  refine (walk W a0 b0 c0 d0 x0 y0 ⟨r0, q0_⟩ ⟨m0, o0, u0⟩ a1 w1).mono fun e W' ⟨he, bel⟩ => ?_
  subst he
  exact ⟨_, rfl, _, _, _, [], _, [], hW', trodAll_mk1 (shut_bool Try.underlying4 _), (trodAll_cons_mk (Below.trod laidOut (by kernel_rfl) (of_decide_eq_true (by kernel_rfl)) k0 bel lt0) (trodAll_cons_mk (shut_int Try.underlying3 w1) trodAll_mk0)), rfl, bel.frame _, fun h => by cases h⟩

theorem proved : Rows.FnExactNeighborsSaid :=
  OpenClaim.holds_of_wide 8 Try.f8 rfl rfl rfl rfl rfl rfl rfl ⟨rfl, rfl, rfl, rfl, rfl⟩ rfl rfl rfl rfl rfl (by kernel_rfl) Try.func8 (by kernel_rfl)
    (of_decide_eq_true (by kernel_rfl)) (by unfold Func.isWrapper; first | (rw [if_pos (by decide +kernel)]; kernel_rfl) | (rw [if_neg (by decide +kernel)]; exact ⟨rfl, rfl⟩))
    (fun os started H enc _ => lifted os started H enc)
#print axioms proved
end Go.Proofs.Ytdefhepagpgnaaa.fnExactNeighbors
