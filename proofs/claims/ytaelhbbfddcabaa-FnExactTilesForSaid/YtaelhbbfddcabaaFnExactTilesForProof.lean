/-
  Proved: the law FnExactTilesFor returns true for every input and its arguments read behind the call as they read before. Conditions: none of our own; those of the given row alone.
-/
import Derived.Test.YtaelhbbfddcabaaRows
import Derived.WalkKit
import Derived.ProofKit
import Derived.OpenShut
import Derived.ShutString
import Derived.SliceStrings
import Derived.ChangeOld
import Derived.Below
import Derived.Test.YtaelhbbfddcabaaMem
import Derived.Test.YtaelhbbfddcabaaInts
import Derived.Test.YtaelhbbfddcabaaFlat
import Derived.Test.YtaelhbbfddcabaaVbox
import Derived.Test.YtaelhbbfddcabaaHeld
import Derived.Test.YtaelhbbfddcabaaRowC
import Derived.Test.YtaelhbbfddcabaaKS
import Derived.Test.YtaelhbbfddcabaaStrS
import Derived.Test.YtaelhbbfddcabaaIntS
import Derived.Test.YtaelhbbfddcabaaSS
import Derived.Test.YtaelhbbfddcabaaPg
import Derived.Test.YtaelhbbfddcabaaVi
import Derived.Test.YtaelhbbfddcabaaVa
import Derived.Test.YtaelhbbfddcabaaVb
import Derived.Test.YtaelhbbfddcabaaVc
import Derived.Test.YtaelhbbfddcabaaVd
import Derived.Test.YtaelhbbfddcabaaVe
import Derived.Test.YtaelhbbfddcabaaVf
import Derived.Test.YtaelhbbfddcabaaVg
import Derived.Test.YtaelhbbfddcabaaVh
import Derived.Test.YtaelhbbfddcabaaWa
import Derived.Test.YtaelhbbfddcabaaWb
import Derived.Test.YtaelhbbfddcabaaWc
import Derived.Test.YtaelhbbfddcabaaWd
import Derived.Test.YtaelhbbfddcabaaWe
import Derived.Test.YtaelhbbfddcabaaWf
import Derived.Test.YtaelhbbfddcabaaWg
import Derived.Test.YtaelhbbfddcabaaWh
import Derived.Test.YtaelhbbfddcabaaWm
import Derived.Test.YtaelhbbfddcabaaWn
import Derived.Test.YtaelhbbfddcabaaWq
import Derived.Test.YtaelhbbfddcabaaWs
import Derived.Deep.RegionHeld3
import Derived.Deep.DeepCutAuto
import Derived.Handy
namespace Go.Proofs.Ytaelhbbfddcabaa.fnExactTilesFor
open Go.ChangeShapes Go.WideShapes Go.ChangeAt Go.RowKit
open Go.ChangeMaps (open_string shut_string)
set_option linter.unusedVariables false

theorem own : ownKnob Try.prog.godebug = none := by kernel_rfl
theorem laidOut : laidOutB Try.prog = true := by kernel_rfl
set_option maxRecDepth 100000 in
set_option maxHeartbeats 8000000 in
theorem walk (w : World) (l0 : Int) (w0 : (Lit.int .i64 l0).wf = true) (a0 : Option Addr) (c0 : Nat) (x0 : List Int) (r0 : Row (Value.int .i64) w w.heap.size a0 x0) (m0 : x0.length ≤ maxLen) (u0 : ∀ z ∈ x0, (Lit.int .i64 z).wf = true) (a1 : Int) (w1 : (Lit.int .i64 a1).wf = true) (a2 : Int) (w2 : (Lit.int .i64 a2).wf = true) (a3 : Int) (w3 : (Lit.int .i64 a3).wf = true) :
    Calls Try.prog 7 #[.agg #[.int .i64 l0, .slice a0 x0.length c0], .int .i64 a1, .int .i64 a2, .int .i64 a3] w fun e w' => e = .returned (.bool true) ∧ Below w.heap.size w w' := by
  clear w1 w2 w3
  have HIN := Lib.hid r0
  have HMX := Lib.hid m0
  clear r0 m0 u0 w0
  have HT0 : Held w (w.alloc (.cells #[.int .i64 l0, .slice a0 x0.length c0] 47)) [(w.heap.size, [.int .i64 l0, .slice a0 x0.length c0])] := by
    have h := (Held.nil w).new #[.int .i64 l0, .slice a0 x0.length c0] 47
    simpa only [World.size_alloc] using h
  have HI : ∀ {bs : List (Nat × List Value)} (W : World), Held w W bs → Row I64 W W.heap.size a0 x0 := fun W h => (HIN.out.below h.below).more h.size
  have HS0 := szTex_any l0 a0 c0 x0 1048576 (w.alloc (.cells #[.int .i64 l0, .slice a0 x0.length c0] 47)) (by omega) (by have := HMX.out; unfold maxLen at this; omega)
  go_enter Try.func7, Try.ntmps7
  go_wp2_with fail
  refine HS0.mono ?_
  rintro e w1 ⟨hb1, hc⟩
  have HT := HT0.later hb1
  clear hb1 HT0 HS0
  rcases hc with ⟨hfit, rfl⟩ | ⟨hfit, rfl⟩
  · have hl : x0.length ≤ 1048576 := hfit
    obtain ⟨q, hq⟩ : ∃ q : Nat, q = 1048576 - x0.length := ⟨_, rfl⟩
    have hq0 : ¬ ((q : Nat) : Int) < 0 := by omega
    have hq1 : ((q : Nat) : Int) ≤ 1048576 := by omega
    rw [← hq]
    clear hq hfit
    obtain ⟨yy, hyy⟩ : ∃ yy, yy = tilesP l0 x0 a1 a2 a3 := ⟨_, rfl⟩
    have HSV : ∀ W A c, Row I64 W W.heap.size A x0 → Calls Try.prog 31 #[txv l0 A x0.length c, .int .i64 a1, .int .i64 a2, .int .i64 a3] W (TilOut yy W) := fun W A c h => by rw [hyy]; exact sTilesFor_any l0 A c x0 a1 a2 a3 W h hl
    have HIV : ∀ W A, Row I64 W W.heap.size A x0 → Calls Try.prog 32 #[txv l0 A x0.length x0.length, .int .i64 a1, .int .i64 a2, .int .i64 a3] W (TilOut yy W) := fun W A h => by rw [hyy]; exact tilesFor_any l0 A x0.length x0 a1 a2 a3 W h hl (Nat.le_refl _)
    have HLEN : Hid (x0.length ≤ 1048576 ∧ yy.length ≤ 4) := Lib.hid ⟨hl, by rw [hyy]; exact tilesP_len _ _ _ _ _⟩
    clear hyy hl
    have k00 := (HT.box 0).c 0
    have k01 := (HT.box 0).c 1
    go_wp2_with fail
    refine (toTex_any l0 a0 c0 x0 _ (HI _ HT) (by have := HLEN.out; omega)).mono ?_
    rintro e w2 ⟨g2, rfl, _, ho2, hb2⟩
    have HT := HT.later hb2
    have HR2 := Lib.hid ho2.row
    clear hb2 k00 k01 ho2
    go_wp2_with fail
    refine (HSV _ _ _ HR2.out).mono ?_
    rintro e w3 ⟨A3, c3, rfl, ho3, hb3⟩
    have HT := HT.later hb3
    have hlo : w.heap.size < w3.heap.size := (HT.box 0).lt
    have R0 : RowC 3 vg w3 w3.heap.size A3 yy := RowC.of_own vg_len ho3 rfl
    clear hb3 HR2 ho3
    have k00 := (HT.box 0).c 0
    have k01 := (HT.box 0).c 1
    go_wp2_with fail
    refine (toTex_any l0 a0 c0 x0 _ (HI _ HT) (by have := HLEN.out; omega)).mono ?_
    rintro e w4 ⟨g4, rfl, hge4, ho4, hb4⟩
    have hgx : g4 < w4.heap.size := ho4.2
    have HT := (HT.later hb4).new #[.int .i64 l0, .slice (some ⟨g4, 0, none⟩) x0.length x0.length] 25
    have hbx : Below w4.heap.size w4 (w4.alloc (.cells #[.int .i64 l0, .slice (some ⟨g4, 0, none⟩) x0.length x0.length] 25)) := by go_grown
    have HMO := ho4.later hbx
    have HX := HMO.row
    have hb4s := hb4.size
    have R0 := (R0.below hb4).alloc (by omega) (.cells #[.int .i64 l0, .slice (some ⟨g4, 0, none⟩) x0.length x0.length] 25)
    clear hb4 ho4 k00 k01 hbx
    have k00 := (HT.box 0).c 0
    have k01 := (HT.box 0).c 1
    go_wp2_with fail
    refine (HIV _ _ HX).mono ?_
    rintro e w5 ⟨A5, c5, rfl, ho5, hb5⟩
    rw [World.size_alloc] at ho5
    have hs5 : w4.heap.size + 1 ≤ w5.heap.size := by have := hb5.size; simpa using this
    have HT := HT.later hb5
    have HMO := HMO.later hb5
    have HX := HX.later hb5
    have R0 := R0.below (hb5.mono (by simp; omega))
    clear hb5 k00 k01
    go_wp2_with fail
    refine (eqTileS_same _ _ _ _ yy _ (RowC.of_own vg_len ho5 rfl) (R0.more (by omega)) (by have := HLEN.out; omega)).mono ?_
    rintro e w6 ⟨rfl, hb6⟩
    have HT := HT.later hb6
    have HX := HX.later hb6
    have HMO := Lib.hid (HMO.later hb6)
    have HR := Lib.hid (R0.below (hb6.mono (by omega)))
    have HO := Lib.hid (own_keep' ho5 hb6)
    have hs6 := Nat.le_trans hs5 hb6.size
    obtain ⟨X0, hX0⟩ : ∃ k, k = w4.heap.size := ⟨_, rfl⟩
    rw [← hX0] at HT HO hgx hs6 hb4s ⊢
    obtain ⟨W0, hW0⟩ : ∃ k, k = w3.heap.size := ⟨_, rfl⟩
    rw [← hW0] at HR hlo hge4 hb4s
    clear hb6 R0 ho5 hs5 hX0 hW0
    have HC : ∀ w0 W : World, Held w0 W [(X0, [.int .i64 l0, .slice (some ⟨g4, 0, none⟩) x0.length x0.length]), (w.heap.size, [.int .i64 l0, .slice a0 x0.length c0])] → (W.cell? ⟨X0, 0, none⟩ = some (.int .i64 l0) ∧ W.cell? ⟨X0, 1, none⟩ = some (.slice (some ⟨g4, 0, none⟩) x0.length x0.length) ∧ W.cell? ⟨w.heap.size, 0, none⟩ = some (.int .i64 l0) ∧ W.cell? ⟨w.heap.size, 1, none⟩ = some (.slice a0 x0.length c0)) := fun w0 W h => ⟨(h.box 0).c 0, (h.box 0).c 1, (h.box 1).c 0, (h.box 1).c 1⟩
    have HQ : Held w6 w6 [(X0, [.int .i64 l0, .slice (some ⟨g4, 0, none⟩) x0.length x0.length]), (w.heap.size, [.int .i64 l0, .slice a0 x0.length c0])] := ⟨Below.refl _ _, HT.2⟩
    have HI6 : ∀ {bs : List (Nat × List Value)} (W : World), Held w6 W bs → Row I64 W W.heap.size a0 x0 := fun W h => ((HI _ HT).below h.below).more h.size
    go_upto_region 10 with fail
    go_cut [43] (fun z wx => z = .bool false ∧ Below w6.heap.size w6 wx)
    case first =>
      clear HT HMO HR HO HSV HIV
      go_region_held3 (fun w' => w'.cell? ⟨X0, 0, none⟩ = some (.int .i64 l0) ∧ w'.cell? ⟨X0, 1, none⟩ = some (.slice (some ⟨g4, 0, none⟩) x0.length x0.length) ∧ w'.cell? ⟨w.heap.size, 0, none⟩ = some (.int .i64 l0) ∧ w'.cell? ⟨w.heap.size, 1, none⟩ = some (.slice a0 x0.length c0))
       (first | (with_reducible exact HC _ _ HQ) | (with_reducible exact HC _ _ HQ.drew))
       (first | (go_at_call 27; refine (toTex_any l0 a0 c0 x0 _ (by first | with_reducible exact HI6 _ HQ | with_reducible exact HI6 _ HQ.drew) (by have := HLEN.out; omega)).mono ?_; rintro e w1 ⟨g6, rfl, _, ho6, hb1⟩; have hm6 := ho6.row; clear ho6; (first | (have HX := HX.later hb1) | (have HX := (rowT_drew HX).later hb1)); (first | (have HQ := HQ.later hb1) | (have HQ := HQ.drew.later hb1))) | (go_at_call 30; refine (eqTex_same l0 _ _ _ _ x0 _ (by first | with_reducible exact HX | with_reducible exact rowT_drew HX) (by first | with_reducible exact hm6 | with_reducible exact rowT_drew hm6) (by have := HLEN.out; omega)).mono ?_; rintro e w1 ⟨rfl, hb1⟩; (first | (have HQ := HQ.later hb1) | (have HQ := HQ.drew.later hb1))))
      all_goals (go_wp2_with fail; go_meet)
      all_goals (first | with_reducible exact ⟨rfl, HQ.below⟩ | with_reducible exact ⟨rfl, HQ.drew.below⟩)
    case rest =>
      clear HQ HC HX HI6
      obtain ⟨rfl, hb7⟩ := hcut
      have HT := HT.later hb7
      have HMO := HMO.out.later hb7
      have HR := Lib.hid (HR.out.below (hb7.mono (by omega)))
      have HO := Lib.hid (own_keep' HO.out hb7)
      have hs7 := Nat.le_trans hs6 hb7.size
      clear hb7 hs6
      have k00 := (HT.box 0).c 0
      have k01 := (HT.box 0).c 1
      have hkk := markTex_own l0 g4 x0.length 1 x0 _ HMO (by have := HLEN.out; omega)
      obtain ⟨kk, hk⟩ : ∃ kk : Nat, kk = 1 + x0.length := ⟨_, rfl⟩
      rw [← hk] at hkk
      have hk2 : kk ≤ 1048577 := by have := HLEN.out; omega
      clear hk
      go_wp2_with fail
      refine hkk.mono ?_
      rintro e w8 ⟨rfl, hg8⟩
      have hkd : ¬ ((kk : Nat) : Int) < 0 := by omega
      have hkd2 : decide (((kk : Nat) : Int) < 0) = false := by simp
      have HT := HT.grownX hg8 (fun g e => by injection e with e; omega) (fun p hp h => by simp only [List.mem_cons, List.not_mem_nil, or_false] at hp; rcases hp with rfl | rfl <;> simp at h <;> omega)
      have HR := Lib.hid (HR.out.keep fun p hp => World.cell?_of_block (hg8.block p.block (by omega) (fun e => by injection e with e; omega)))
      have HO := Lib.hid (own_keep HO.out hg8 (by omega))
      have hs8 := Nat.le_trans hs7 hg8.size
      clear k00 k01 hg8 hkk hs7 HMO
      go_wp2_with fail
      refine (eqTileS_same _ _ _ _ yy _ (RowC.of_own vg_len HO.out rfl) (HR.out.more (by omega)) (by have := HLEN.out; omega)).mono ?_
      rintro e w9 ⟨rfl, hb9⟩
      have HT := HT.later hb9
      have HR := Lib.hid (HR.out.below (hb9.mono (by omega)))
      have HO := Lib.hid (own_keep' HO.out hb9)
      have hs9 := Nat.le_trans hs8 hb9.size
      clear hb9 hs8
      have hmm := markTileO A5 c5 (X0 + 1) 1 yy _ HO.out (by have := HLEN.out; omega)
      obtain ⟨mm, hm⟩ : ∃ mm : Nat, mm = 1 + 3 * yy.length := ⟨_, rfl⟩
      rw [← hm] at hmm
      go_wp2_with fail
      refine hmm.mono ?_
      rintro e w10 ⟨rfl, ho10, hg10⟩
      have HT := HT.grownX hg10 (fun q e => by have h1 := own_block HO.out q e; omega) (fun p hp e => by have h2 := own_block HO.out p.1 e.symm; simp only [List.mem_cons, List.not_mem_nil, or_false] at hp; rcases hp with rfl | rfl <;> dsimp only at h2 <;> omega)
      have HR := Lib.hid (HR.out.keep fun p hp => World.cell?_of_block (hg10.block p.block (by omega) (fun e => by have h1 := own_block HO.out p.block e.symm; omega)))
      have HM : Hid (RowC 3 vg w10 w10.heap.size A5 (mrkT 1 yy.length)) := Lib.hid (RowC.of_own vg_len ho10 (mrkT_len _ _))
      have hs10 := Nat.le_trans hs9 hg10.size
      clear hg10 hmm hs9 HO ho10
      have hmd : ¬ ((mm : Nat) : Int) < 0 := by omega
      have hm2 : mm ≤ 6291457 := by have := HLEN.out; omega
      have HHE : ∀ W, RowC 3 vg W W.heap.size A5 (mrkT 1 yy.length) → Calls Try.prog 36 #[.slice A5 yy.length c5, .int .i64 1] W fun e w' => e = .returned (.int .i64 (mm : Int)) ∧ Below W.heap.size W w' := fun W h => by
        have h := heldTileM A5 c5 1 yy.length W h (by have := HLEN.out; omega)
        rw [← hm] at h
        exact h
      clear hm
      go_wp2_with fail
      refine (HHE _ HM.out).mono ?_
      rintro e w11 ⟨rfl, hb11⟩
      have HT := HT.later hb11
      have HR := Lib.hid (HR.out.below (hb11.mono (by omega)))
      have HM := Lib.hid (HM.out.later hb11)
      have hs11 := Nat.le_trans hs10 hb11.size
      clear hb11 hs10
      have k10 := (HT.box 1).c 0
      have k11 := (HT.box 1).c 1
      go_wp2_with fail
      refine (toTex_any l0 a0 c0 x0 _ (HI _ HT) (by have := HLEN.out; omega)).mono ?_
      rintro e w12 ⟨g7, rfl, _, ho12, hb12⟩
      have HT := HT.later hb12
      have HR := Lib.hid (HR.out.below (hb12.mono (by omega)))
      have HM := Lib.hid (HM.out.later hb12)
      have HX := Lib.hid ho12.row
      have hs12 := Nat.le_trans hs11 hb12.size
      clear k10 k11 hb12 hs11 ho12
      go_wp2_with fail
      refine (HIV _ _ HX.out).mono ?_
      rintro e w13 ⟨A8, c8, rfl, ho13, hb13⟩
      have HT := HT.later hb13
      have HR := Lib.hid (HR.out.below (hb13.mono (by omega)))
      have HM := Lib.hid (HM.out.later hb13)
      have HO := Lib.hid ho13
      have hs13 := Nat.le_trans hs12 hb13.size
      clear hb13 hs12 ho13 HX
      go_wp2_with fail
      refine (eqTileS_same _ _ _ _ yy _ (RowC.of_own vg_len HO.out rfl) (HR.out.more (by omega)) (by have := HLEN.out; omega)).mono ?_
      rintro e w14 ⟨rfl, hb14⟩
      have HT := HT.later hb14
      have HM := Lib.hid (HM.out.later hb14)
      clear hb14 HO HR
      go_wp2_with fail
      refine (HHE _ HM.out).mono ?_
      rintro e w15 ⟨rfl, hb15⟩
      have HT := HT.later hb15
      clear hb15 HM HHE
      go_wp2_with fail
      go_ret
      exact ⟨rfl, HT.below⟩
  · clear hfit
    go_wp2_with fail
    go_ret
    exact ⟨rfl, HT.below⟩

set_option maxRecDepth 100000 in
theorem lifted (os : Os) (started : os.Started) (H : Type) (enc : TypeId × Value → H) :
    ReturnsInHanded {} Try.checked os 7 .any (Rows.fnExactTilesForSpec.pre6 enc Try.prog Try.f7 Rows.fnExactTilesForRow.domain false) (Rows.fnExactTilesForSpec.post enc Try.prog Try.f7 false true false false) := by
  refine returnsInHanded_of_change (C := Try.checked) own started (by kernel_rfl) Try.func7
    (ChangeSpec.witness6 (enc := enc) (C := Try.checked) false ⟨#[], #[.agg #[.int .i64 0, .slice none 0 0], .int .i64 0, .int .i64 0, .int .i64 0], []⟩ 8 (by kernel_rfl) (by kernel_rfl) (by kernel_rfl) (by kernel_rfl)) ?_
  intro W base args ds gs before hval0 hW hcnd _
  have hval : ∀ (j : Nat) t v, Try.f7.params[j]? = some t → args[j]? = some v → Value.okWide Try.prog W .any base t v := hval0
  have hW' := hW
  obtain ⟨p, q, hA0, hV, rfl, hfz, hnd⟩ := hW
  have hA : DataW.TrodAll enc Try.prog W 0 (fun _ => true) true Try.f7.params.toList args.toList ds p := hA0
  rw [Try.params7] at hA hval
  obtain ⟨v0, vs0, d0, ds0, p0, q0, hargs, rfl, rfl, h0, r1000⟩ := trodAll_cons hA
  obtain ⟨v1, vs1, d1, ds1, p1, q1, rfl, rfl, rfl, h1, r1001⟩ := trodAll_cons r1000
  obtain ⟨v2, vs2, d2, ds2, p2, q2, rfl, rfl, rfl, h2, r1002⟩ := trodAll_cons r1001
  obtain ⟨v3, vs3, d3, ds3, p3, q3, rfl, rfl, rfl, h3, r1003⟩ := trodAll_cons r1002
  obtain ⟨rfl, rfl, rfl⟩ := trodAll_nil r1003
  obtain rfl : args = #[v0, v1, v2, v3] := by cases args; simp_all
  obtain ⟨rfl, rfl⟩ := trodVars_none hV
  have k0 := h0
  have lt0 : ∀ x ∈ p0, x.block < W.heap.size := by obtain ⟨m, hm⟩ := k0; exact DataW.trod_lt m _ _ _ hm
  have hv0 := hval 0 47 v0 rfl rfl
  obtain ⟨s0, t0, n0, X0, Y0, rfl, hs0, ht0⟩ := open_pairP (P := Try.prog) (t := 47) Try.underlying47 (by kernel_rfl) rfl rfl (by kernel_rfl) (by kernel_rfl) hv0 h0
  obtain ⟨l0, e0, _, w0⟩ := DataW.trod_int Try.underlying3 hs0
  simp at e0
  subst e0
  obtain ⟨a0, c0, x0, rfl, r0, m0, u0⟩ : ∃ (a : Option Addr) (c : Nat) (xs : List Int), t0 = .slice a xs.length c ∧ Row (Value.int .i64) W W.heap.size a xs ∧ xs.length ≤ maxLen ∧ ∀ x ∈ xs, (Lit.int .i64 x).wf = true := by
    rcases open_ints Try.underlying23 Try.underlying3 (by kernel_rfl) ht0 with ⟨hcs, _⟩ | ⟨x, l, c, zs, hcs, _, hl, hm, hz, _, hcell, hwz⟩
    · simp at hcs
      exact ⟨none, 0, [], hcs, Row.nil, Nat.zero_le _, fun x hx => by cases hx⟩
    · simp at hcs
      have hlz : l ≤ zs.length := by rw [hz]; split <;> omega
      have hzm : zs.length ≤ maxLen := by rw [hz]; split <;> omega
      obtain ⟨ys, hyl, hr, hym, hyw⟩ := row_of_cells (f := Value.int .i64) (zs := zs) (d := (0 : Int)) (p := fun z => (Lit.int .i64 z).wf = true) hlz hzm rfl hcell hwz
      exact ⟨some x, c, ys, by rw [hcs, hyl], hr, hym, hyw⟩
  obtain ⟨a1, rfl, rfl, rfl, w1⟩ := open_int Try.underlying3 (hval 1 3 v1 rfl rfl) h1
  obtain ⟨a2, rfl, rfl, rfl, w2⟩ := open_int Try.underlying3 (hval 2 3 v2 rfl rfl) h2
  obtain ⟨a3, rfl, rfl, rfl, w3⟩ := open_int Try.underlying3 (hval 3 3 v3 rfl rfl) h3
  clear hA0
  refine (walk W l0 w0 a0 c0 x0 r0 m0 u0 a1 w1 a2 w2 a3 w3).mono fun e W' ⟨he, bel⟩ => ?_
  subst he
  exact ⟨_, rfl, _, _, _, [], _, [], hW', trodAll_mk1 (shut_bool Try.underlying4 _), (trodAll_cons_mk (Below.trod laidOut (by kernel_rfl) (of_decide_eq_true (by kernel_rfl)) k0 bel lt0) (trodAll_cons_mk (shut_int Try.underlying3 w1) (trodAll_cons_mk (shut_int Try.underlying3 w2) (trodAll_cons_mk (shut_int Try.underlying3 w3) trodAll_mk0)))), rfl, bel.frame _, fun h => by cases h⟩

theorem proved : Rows.FnExactTilesForSaid :=
  OpenClaim.holds_of_wide 7 Try.f7 rfl rfl rfl rfl rfl rfl rfl ⟨rfl, rfl, rfl, rfl, rfl⟩ rfl rfl rfl rfl rfl (by kernel_rfl) Try.func7 (by kernel_rfl)
    (of_decide_eq_true (by kernel_rfl)) (by unfold Func.isWrapper; first | (rw [if_pos (by decide +kernel)]; kernel_rfl) | (rw [if_neg (by decide +kernel)]; exact ⟨rfl, rfl⟩))
    (fun os started H enc _ => lifted os started H enc)
#print axioms proved
end Go.Proofs.Ytaelhbbfddcabaa.fnExactTilesFor
