/-
  Proved: the law FnDicing returns true for every input and its arguments read behind the call as they read before. Conditions: none of our own; those of the given row alone.
-/
import Derived.Test.YtmhcpjednogegaaRows
import Derived.WalkKit
import Derived.ProofKit
import Derived.OpenShut
import Derived.ShutString
import Derived.SliceStrings
import Derived.ChangeOld
import Derived.Below
import Derived.Test.YtmhcpjednogegaaMem
import Derived.Test.YtmhcpjednogegaaInts
import Derived.Test.YtmhcpjednogegaaIntS
import Derived.Test.YtmhcpjednogegaaCur
import Derived.Test.YtmhcpjednogegaaFlat
import Derived.Test.YtmhcpjednogegaaVbox
import Derived.Test.YtmhcpjednogegaaVec
import Derived.Test.YtmhcpjednogegaaHeld
import Derived.Test.YtmhcpjednogegaaArr
import Derived.Test.YtmhcpjednogegaaTr
import Derived.Test.YtmhcpjednogegaaRowC
import Derived.Test.YtmhcpjednogegaaPat
import Derived.Test.YtmhcpjednogegaaPVal
import Derived.Test.YtmhcpjednogegaaGrid
import Derived.Test.YtmhcpjednogegaaPut
import Derived.Test.YtmhcpjednogegaaPEv
import Derived.Test.YtmhcpjednogegaaSub
import Derived.Test.YtmhcpjednogegaaSplW
import Derived.Test.YtmhcpjednogegaaSplI
import Derived.Test.YtmhcpjednogegaaVDraw
import Derived.Test.YtmhcpjednogegaaPDraw
import Derived.Test.YtmhcpjednogegaaCDrP
import Derived.Test.YtmhcpjednogegaaKV
import Derived.Test.YtmhcpjednogegaaCam
import Derived.Test.YtmhcpjednogegaaCPrj
import Derived.Test.YtmhcpjednogegaaTri
import Derived.Test.YtmhcpjednogegaaTSm
import Derived.Test.YtmhcpjednogegaaDv
import Derived.Test.YtmhcpjednogegaaDp
import Derived.Test.YtmhcpjednogegaaDq
import Derived.Test.YtmhcpjednogegaaDt
import Derived.Test.YtmhcpjednogegaaDu
import Derived.Test.YtmhcpjednogegaaDm
import Derived.Test.YtmhcpjednogegaaDx
import Derived.Test.YtmhcpjednogegaaDz
import Derived.Handy
import Derived.Deep.RegionHeld3
import Derived.Deep.DeepCutAuto
import Derived.Laws.StructEq
namespace Go.Proofs.Ytmhcpjednogegaa.fnDicing
open Go.ChangeShapes Go.WideShapes Go.ChangeAt Go.RowKit
open Go.ChangeMaps (open_string shut_string)
set_option linter.unusedVariables false

theorem own : ownKnob Try.prog.godebug = none := by kernel_rfl
theorem laidOut : laidOutB Try.prog = true := by kernel_rfl
set_option maxRecDepth 100000 in
set_option maxHeartbeats 20000000 in
theorem walk (w : World) (a0 : Option Addr) (c0 : Nat) (x0 : List Int) (r0 : Row (Value.int .u8) w w.heap.size a0 x0) (m0 : x0.length ≤ maxLen) (w0 : ∀ x ∈ x0, (Lit.int .u8 x).wf = true) :
    Calls Try.prog 3 #[.slice a0 x0.length c0] w fun e w' => e = .returned (.bool true) ∧ Below w.heap.size w w' := by
  have H8 : Hid (∀ x ∈ x0, 0 ≤ x ∧ x ≤ 255) := Lib.hid (fun x hx => bounds_u8 (w0 x hx))
  have HR : Hid (Row U8 w w.heap.size a0 x0) := Lib.hid r0
  clear w0 r0
  by_cases hbig : x0.length ≤ 1048576
  case neg =>
    go_enter Try.func3, Try.ntmps3
    go_wp2_with fail
    go_ret
    exact ⟨rfl, Below.refl _ _⟩
  case pos =>
    go_enter Try.func3, Try.ntmps3
    go_wp2_with fail
    refine (makeCamera_any _ _ x0 _ HR.out H8.out hbig).mono ?_
    rintro e w1 ⟨q0, q1, q2, q3, q4, q5, q6, hG, rfl, hb1⟩
    have HT := ((Held.nil w).later hb1).new #[.int .i64 q0, .int .i64 q1, .int .i64 q2, .int .i64 q3, .bool q4, .int .i64 q5, .int .i64 q6] 24
    have HR1 := Lib.hid (HR.out.later HT.below)
    have HCO : Hid ((⟨q0, q1, q2, q3, q4, q5, q6⟩ : CV).ok = true) := Lib.hid (camGood_ok hG)
    clear hb1 hG
    go_wp2_with fail
    refine (makePatch_any _ _ x0 _ _ HR1.out H8.out hbig (by omega) (by omega)).mono ?_
    rintro e w2 ⟨p0, p1, p2, p3, p4, p5, p6, p7, p8, px, py, pz, hS, rfl, hb2⟩
    have HT := (HT.later hb2).new #[.int .i64 p0, .int .i64 p1, .int .i64 p2, .int .i64 p3, .int .i64 p4, .int .i64 p5, .int .i64 p6, .int .i64 p7, .int .i64 p8, .int .i64 px, .int .i64 py, .int .i64 pz] 30
    have HPO : Hid ((⟨p0, p1, p2, p3, p4, p5, p6, p7, p8, px, py, pz⟩ : PV).ok = true) := Lib.hid (small_okD hS)
    clear hb2 hS HR1
    go_upto_region 5 with fail
    obtain ⟨W2, hW2⟩ : ∃ X, X = w2.alloc (.cells #[.int .i64 p0, .int .i64 p1, .int .i64 p2, .int .i64 p3, .int .i64 p4, .int .i64 p5, .int .i64 p6, .int .i64 p7, .int .i64 p8, .int .i64 px, .int .i64 py, .int .i64 pz] 30) := ⟨_, rfl⟩
    rw [← hW2] at HT ⊢
    clear hW2
    generalize w2.heap.size = kp at HT ⊢
    generalize w1.heap.size = kc at HT ⊢
    have HTC := Lib.hid HT
    clear HT
    go_cut [5] (fun x wx => ∃ k : Nat, (k = 1 ∨ k = 2 ∨ k = 4) ∧ x = .int .i64 ((2 * k : Nat) : Int) ∧ Held w wx [(kp, [.int .i64 p0, .int .i64 p1, .int .i64 p2, .int .i64 p3, .int .i64 p4, .int .i64 p5, .int .i64 p6, .int .i64 p7, .int .i64 p8, .int .i64 px, .int .i64 py, .int .i64 pz]), (kc, [.int .i64 q0, .int .i64 q1, .int .i64 q2, .int .i64 q3, .bool q4, .int .i64 q5, .int .i64 q6])])
    case first =>
      go_wp2_with fail
      have HT := HTC.out.new #[.int .i64 2, .int .i64 4, .int .i64 8] 3
      have HR3 := Lib.hid (HR.out.later HT.below)
      refine (makeNum_any _ _ x0 _ _ HR3.out H8.out hbig (by omega) (by omega)).mono ?_
      rintro e w3 ⟨m1, m1l, m1h, rfl, hb3⟩
      have HT := HT.later hb3
      have b0 := (HT.box 0).c 0
      have b1 := (HT.box 0).c 1
      have b2 := (HT.box 0).c 2
      have hm : m1.tmod 3 = 0 ∨ m1.tmod 3 = 1 ∨ m1.tmod 3 = 2 := by rw [Int.tmod_eq_emod_of_nonneg m1l]; omega
      have HT := HT.tail
      rcases hm with hm | hm | hm
      · have hm2 : m1 % 3 = 0 := by rw [← Int.tmod_eq_emod_of_nonneg m1l]; exact hm
        clear m1l m1h hb3 HTC HR3
        go_wp2_with fail
        go_meet
        exact ⟨1, .inl rfl, rfl, HT⟩
      · have hm2 : m1 % 3 = 1 := by rw [← Int.tmod_eq_emod_of_nonneg m1l]; exact hm
        clear m1l m1h hb3 HTC HR3
        go_wp2_with fail
        go_meet
        exact ⟨2, .inr (.inl rfl), rfl, HT⟩
      · have hm2 : m1 % 3 = 2 := by rw [← Int.tmod_eq_emod_of_nonneg m1l]; exact hm
        clear m1l m1h hb3 HTC HR3
        go_wp2_with fail
        go_meet
        exact ⟨4, .inr (.inr rfl), rfl, HT⟩
    case rest =>
      obtain ⟨k, hk, rfl, HT⟩ := hcut
      clear HTC
      obtain ⟨n, hn⟩ : ∃ n, n = 2 * k := ⟨_, rfl⟩
      rw [← hn]
      have HNK := Lib.hid hn
      have HK := Lib.hid hk
      clear hn hk
      have HR4 := Lib.hid (HR.out.later HT.below)
      go_wp2_with fail
      refine (makeNum_any _ _ x0 _ _ HR4.out H8.out hbig (by omega) (by omega)).mono ?_
      rintro e w4 ⟨m2, m2l, m2h, rfl, hb4⟩
      have HT := HT.later hb4
      clear hb4 HR4
      go_upto_region 7 with fail
      generalize m2 % 33 - 16 = x
      clear m2l m2h HR H8 hbig
      obtain ⟨xs, hxs⟩ : ∃ xs, xs = subL (⟨q0, q1, q2, q3, q4, q5, q6⟩ : CV) (⟨p0, p1, p2, p3, p4, p5, p6, p7, p8, px, py, pz⟩ : PV) x 4 0 0 1 (n : Int) := ⟨_, rfl⟩
      have HD : Hid (∀ w, Calls Try.prog 12 #[cam q0 q1 q2 q3 q4 q5 q6, tr p0 p1 p2 p3 p4 p5 p6 p7 p8 px py pz, .int .i64 (n : Int), .int .i64 x, .int .i64 4] w (MicOut xs w)) := Lib.hid (fun w => by rw [hxs]; exact dicePatch_any (⟨q0, q1, q2, q3, q4, q5, q6⟩ : CV) (⟨p0, p1, p2, p3, p4, p5, p6, p7, p8, px, py, pz⟩ : PV) (n : Int) x 4 w)
      have HSP : Hid (∀ w, Calls Try.prog 13 #[vec 0 0 1] w (fun e w' => ∃ A c, e = .returned (.slice A 4 c) ∧ RowC 3 vg w' w'.heap.size A (quar 0 0 1) ∧ Below w.heap.size w w')) := Lib.hid (fun w => (split_any 0 0 1 w).mono (by
        rintro e w' ⟨A, c, he, ho, hb⟩
        exact ⟨A, c, he, RowC.of_own vg_len ho rfl, hb⟩))
      have HDS : Hid (∀ (t : Nat) w, Calls Try.prog 14 #[cam q0 q1 q2 q3 q4 q5 q6, tr p0 p1 p2 p3 p4 p5 p6 p7 p8 px py pz, vec ((t % 2 : Nat) : Int) ((t / 2 : Nat) : Int) 2, .int .i64 (n : Int), .int .i64 x, .int .i64 4] w (MicOut (partD (⟨q0, q1, q2, q3, q4, q5, q6⟩ : CV) (⟨p0, p1, p2, p3, p4, p5, p6, p7, p8, px, py, pz⟩ : PV) x 4 n t) w)) := Lib.hid (fun t w => diceSub_any (⟨q0, q1, q2, q3, q4, q5, q6⟩ : CV) (⟨p0, p1, p2, p3, p4, p5, p6, p7, p8, px, py, pz⟩ : PV) _ _ 2 (n : Int) x 4 w)
      obtain ⟨z, hz⟩ : ∃ z, z = rateA (⟨q0, q1, q2, q3, q4, q5, q6⟩ : CV) (⟨p0, p1, p2, p3, p4, p5, p6, p7, p8, px, py, pz⟩ : PV) 1000 := ⟨_, rfl⟩
      have HDR : Hid (∀ w, Calls Try.prog 15 #[cam q0 q1 q2 q3 q4 q5 q6, tr p0 p1 p2 p3 p4 p5 p6 p7 p8 px py pz, .int .i64 1000] w (fun e w' => e = .returned (.int .i64 z) ∧ Below w.heap.size w w')) := Lib.hid (fun w => by rw [hz]; exact diceRate_any (⟨q0, q1, q2, q3, q4, q5, q6⟩ : CV) (⟨p0, p1, p2, p3, p4, p5, p6, p7, p8, px, py, pz⟩ : PV) 1000 w)
      have HZ : Hid (0 < z) := Lib.hid (by rw [hz]; exact rate_pos HCO.out HPO.out)
      have HXL : Hid (xs.length ≤ 128) := Lib.hid (by rw [hxs]; exact subL_len ..)
      have HFD : Hid (∀ t j, t < 4 → ∀ hj : j < (partD (⟨q0, q1, q2, q3, q4, q5, q6⟩ : CV) (⟨p0, p1, p2, p3, p4, p5, p6, p7, p8, px, py, pz⟩ : PV) x 4 n t).length, ∃ (e : Nat) (he : e < xs.length), sameM xs[e] ((partD (⟨q0, q1, q2, q3, q4, q5, q6⟩ : CV) (⟨p0, p1, p2, p3, p4, p5, p6, p7, p8, px, py, pz⟩ : PV) x 4 n t)[j]) = true) := Lib.hid (fun t j ht hj => by
        have e1 := HNK.out
        have hk := HK.out
        subst e1 hxs
        exact all_found (by omega) ht hj)
      obtain ⟨cn, hcn⟩ : ∃ c, c = dcnt (⟨q0, q1, q2, q3, q4, q5, q6⟩ : CV) (⟨p0, p1, p2, p3, p4, p5, p6, p7, p8, px, py, pz⟩ : PV) x 4 n := ⟨_, rfl⟩
      have HC4 : Hid (cn 4 = xs.length) := Lib.hid (by
        have e1 := HNK.out
        have hk := HK.out
        subst e1 hxs hcn
        exact dcnt_four _ _ _ _ k hk)
      have HCS : Hid (∀ t, cn (t + 1) = cn t + (partD (⟨q0, q1, q2, q3, q4, q5, q6⟩ : CV) (⟨p0, p1, p2, p3, p4, p5, p6, p7, p8, px, py, pz⟩ : PV) x 4 n t).length) := Lib.hid (fun t => by rw [hcn]; exact dcnt_step ..)
      have HCB : Hid (∀ t, cn t ≤ 128 * t) := Lib.hid (fun t => by rw [hcn]; exact dcnt_le ..)
      have HC0 : Hid (cn 0 = 0) := Lib.hid (by rw [hcn]; rfl)
      have HPL : Hid (∀ t, (partD (⟨q0, q1, q2, q3, q4, q5, q6⟩ : CV) (⟨p0, p1, p2, p3, p4, p5, p6, p7, p8, px, py, pz⟩ : PV) x 4 n t).length ≤ 128) := Lib.hid (fun t => partD_len ..)
      generalize partD (⟨q0, q1, q2, q3, q4, q5, q6⟩ : CV) (⟨p0, p1, p2, p3, p4, p5, p6, p7, p8, px, py, pz⟩ : PV) x 4 n = pd at HDS HFD HCS HPL
      clear hxs hz hcn HCO HPO HNK HK
      have bp0 := (HT.box 0).c 0
      have bp1 := (HT.box 0).c 1
      have bp2 := (HT.box 0).c 2
      have bp3 := (HT.box 0).c 3
      have bp4 := (HT.box 0).c 4
      have bp5 := (HT.box 0).c 5
      have bp6 := (HT.box 0).c 6
      have bp7 := (HT.box 0).c 7
      have bp8 := (HT.box 0).c 8
      have bp9 := (HT.box 0).c 9
      have bp10 := (HT.box 0).c 10
      have bp11 := (HT.box 0).c 11
      have bc0 := (HT.box 1).c 0
      have bc1 := (HT.box 1).c 1
      have bc2 := (HT.box 1).c 2
      have bc3 := (HT.box 1).c 3
      have bc4 := (HT.box 1).c 4
      have bc5 := (HT.box 1).c 5
      have bc6 := (HT.box 1).c 6
      go_wp2_with fail
      refine (HD.out _).mono ?_
      rintro e w5 ⟨A1, c1, rfl, ho1, hb5⟩
      have HT := HT.later hb5
      have HX := Lib.hid (RowC.of_own mgc_len ho1 rfl : RowC 12 mgc w5 w5.heap.size A1 xs)
      clear ho1 hb5 bp0 bp1 bp2 bp3 bp4 bp5 bp6 bp7 bp8 bp9 bp10 bp11 bc0 bc1 bc2 bc3 bc4 bc5 bc6
      go_wp2_with fail
      refine (HSP.out _).mono ?_
      rintro e w6 ⟨A2, c2, rfl, hq6, hb6⟩
      have HT := HT.later hb6
      have HX := Lib.hid (HX.out.later hb6)
      have HQ := Lib.hid hq6
      have HT0 := Lib.hid HT
      clear hq6 hb6 HT HD HSP
      go_wp2_with fail
      go_loopw [8, 42] (fun cv iv wr => ∃ t : Nat, t ≤ 4 ∧ iv = .int .i64 t ∧ cv = .int .i64 (cn t : Nat) ∧ Held w wr [(kp, [.int .i64 p0, .int .i64 p1, .int .i64 p2, .int .i64 p3, .int .i64 p4, .int .i64 p5, .int .i64 p6, .int .i64 p7, .int .i64 p8, .int .i64 px, .int .i64 py, .int .i64 pz]), (kc, [.int .i64 q0, .int .i64 q1, .int .i64 q2, .int .i64 q3, .bool q4, .int .i64 q5, .int .i64 q6])] ∧ RowC 12 mgc wr wr.heap.size A1 xs ∧ RowC 3 vg wr wr.heap.size A2 (quar 0 0 1)) (fun _ i _ => 4 - (intOf i).toNat)
      case atStart => exact ⟨0, by omega, rfl, by rw [HC0.out]; rfl, HT0.out, HX.out, HQ.out⟩
      case round =>
        clear HT0 HX HQ
        obtain ⟨t, ht4, rfl, rfl, HT, hx, hq⟩ := hrel
        have HX := Lib.hid hx
        have HQ := Lib.hid hq
        clear hx hq
        by_cases ht : t < 4
        case neg =>
          obtain rfl : t = 4 := by omega
          have hz := HZ.out
          have HZ4 := HC4.out
          rw [HZ4]
          clear HC4 HZ4 HX HQ ht4 ht
          have bp0 := (HT.box 0).c 0
          have bp1 := (HT.box 0).c 1
          have bp2 := (HT.box 0).c 2
          have bp3 := (HT.box 0).c 3
          have bp4 := (HT.box 0).c 4
          have bp5 := (HT.box 0).c 5
          have bp6 := (HT.box 0).c 6
          have bp7 := (HT.box 0).c 7
          have bp8 := (HT.box 0).c 8
          have bp9 := (HT.box 0).c 9
          have bp10 := (HT.box 0).c 10
          have bp11 := (HT.box 0).c 11
          have bc0 := (HT.box 1).c 0
          have bc1 := (HT.box 1).c 1
          have bc2 := (HT.box 1).c 2
          have bc3 := (HT.box 1).c 3
          have bc4 := (HT.box 1).c 4
          have bc5 := (HT.box 1).c 5
          have bc6 := (HT.box 1).c 6
          go_wp2_with (go_at_call 15; refine (HDR.out _).mono ?_; rintro e w7 ⟨rfl, hb7⟩; have HT := HT.later hb7; clear hb7)
          go_ret
          exact ⟨rfl, HT.below⟩
        case pos =>
          have HT4 := Lib.hid ht
          have ht' : (t : Int) < 4 := by omega
          have h0t : (0 : Int) ≤ (t : Int) := by omega
          obtain ⟨bq, oq, rfl, hbl, hc⟩ := HQ.out.at (k := t) (by simp [quar]; omega)
          have hqv : (quar 0 0 1)[t]'(by simp [quar]; omega) = (((t % 2 : Nat) : Int), ((t / 2 : Nat) : Int), 2) := by
            have h := quar_at t ht
            rw [List.getElem?_eq_getElem (by simp [quar]; omega), Option.some.injEq] at h
            exact h
          rw [hqv] at hc
          obtain ⟨d0, d1, d2⟩ := vg_at hc
          simp only at d0 d1 d2
          obtain ⟨ys, hys⟩ : ∃ ys, ys = pd t := ⟨_, rfl⟩
          obtain ⟨qu, hqu⟩ : ∃ u, u = ((t % 2 : Nat) : Int) := ⟨_, rfl⟩
          obtain ⟨qv, hqv'⟩ : ∃ u, u = ((t / 2 : Nat) : Int) := ⟨_, rfl⟩
          have HDT : Hid (∀ w, Calls Try.prog 14 #[cam q0 q1 q2 q3 q4 q5 q6, tr p0 p1 p2 p3 p4 p5 p6 p7 p8 px py pz, vec qu qv 2, .int .i64 (n : Int), .int .i64 x, .int .i64 4] w (MicOut ys w)) := Lib.hid (fun w => by rw [hys, hqu, hqv']; exact HDS.out t w)
          have HFT : Hid (∀ j (hj : j < ys.length), ∃ (e : Nat) (he : e < xs.length), sameM xs[e] ys[j] = true) := Lib.hid (fun j hj => by subst hys; exact HFD.out t j ht hj)
          have HCT : Hid (cn (t + 1) = cn t + ys.length) := Lib.hid (by rw [hys]; exact HCS.out t)
          have HYL : Hid (ys.length ≤ 128) := Lib.hid (by rw [hys]; exact HPL.out t)
          have HCB' := Lib.hid (HCB.out t)
          rw [← hqu] at d0
          rw [← hqv'] at d1
          have HTT := Lib.hid HT
          clear hys hqu hqv' hqv hc ht4 ht HT hbl
          go_upto_region 12 with fail
          have HN := HTT.out.new #[.int .i64 qu, .int .i64 qv, .int .i64 2] 39
          have HL := (Held.nil wr).alloc (.cells #[.int .i64 qu, .int .i64 qv, .int .i64 2] 39)
          have bp0 := (HN.box 1).c 0
          have bp1 := (HN.box 1).c 1
          have bp2 := (HN.box 1).c 2
          have bp3 := (HN.box 1).c 3
          have bp4 := (HN.box 1).c 4
          have bp5 := (HN.box 1).c 5
          have bp6 := (HN.box 1).c 6
          have bp7 := (HN.box 1).c 7
          have bp8 := (HN.box 1).c 8
          have bp9 := (HN.box 1).c 9
          have bp10 := (HN.box 1).c 10
          have bp11 := (HN.box 1).c 11
          have bc0 := (HN.box 2).c 0
          have bc1 := (HN.box 2).c 1
          have bc2 := (HN.box 2).c 2
          have bc3 := (HN.box 2).c 3
          have bc4 := (HN.box 2).c 4
          have bc5 := (HN.box 2).c 5
          have bc6 := (HN.box 2).c 6
          have e0 := (HN.box 0).c 0
          have e1 := (HN.box 0).c 1
          have e2 := (HN.box 0).c 2
          clear d0 d1 d2
          go_wp2_with fail
          refine (HDT.out _).mono ?_
          rintro e w7 ⟨A3, c3, rfl, ho3, hb7⟩
          have HT := HN.tail.later hb7
          have HL := (HL.later hb7).below
          have HX := Lib.hid (HX.out.later HL)
          have HQ := Lib.hid (HQ.out.later HL)
          have HY := Lib.hid (RowC.of_own mgc_len ho3 rfl : RowC 12 mgc w7 w7.heap.size A3 ys)
          have ew : IntKind.i64.wrap ((cn t : Int) + (ys.length : Int)) = (cn (t + 1) : Int) := by
            rw [HCT.out]
            have h1 := HCB'.out
            have h2 := HYL.out
            rw [wrap_in (by omega)]
            omega
          have HT0 := Lib.hid HT
          clear ho3 hb7 HL HN HT HTT HDT bp0 bp1 bp2 bp3 bp4 bp5 bp6 bp7 bp8 bp9 bp10 bp11 bc0 bc1 bc2 bc3 bc4 bc5 bc6 e0 e1 e2
          go_wp2_with fail
          go_loopw [58] (fun jv wr => ∃ j : Nat, j ≤ ys.length ∧ jv = .int .i64 j ∧ Held w wr [(kp, [.int .i64 p0, .int .i64 p1, .int .i64 p2, .int .i64 p3, .int .i64 p4, .int .i64 p5, .int .i64 p6, .int .i64 p7, .int .i64 p8, .int .i64 px, .int .i64 py, .int .i64 pz]), (kc, [.int .i64 q0, .int .i64 q1, .int .i64 q2, .int .i64 q3, .bool q4, .int .i64 q5, .int .i64 q6])] ∧ RowC 12 mgc wr wr.heap.size A1 xs ∧ RowC 3 vg wr wr.heap.size (some ⟨bq, oq, none⟩) (quar 0 0 1) ∧ RowC 12 mgc wr wr.heap.size A3 ys) (fun jv _ => ys.length - (intOf jv).toNat)
          case atStart => exact ⟨0, by omega, rfl, HT0.out, HX.out, HQ.out, HY.out⟩
          case round =>
            clear HT0 HX HQ HY ew
            obtain ⟨j, hjl, rfl, HT, hx, hq, hy⟩ := hrel
            have HX := Lib.hid hx
            have HQ := Lib.hid hq
            have HY := Lib.hid hy
            clear hx hq hy
            have hyl := HYL.out
            by_cases hj : j < ys.length
            case neg =>
              obtain rfl : j = ys.length := by omega
              have h4 := HT4.out
              go_wp2_with fail
              go_roundw
              case rel => exact ⟨t + 1, by omega, by go_num, rfl, HT, HX.out, HQ.out⟩
              case measure => simp [intOf]; omega
            case pos =>
              have HJ := Lib.hid hj
              have hj' : (j : Int) < (ys.length : Int) := by omega
              have h0j : (0 : Int) ≤ (j : Int) := by omega
              obtain ⟨by', oy, rfl, hbl, hc⟩ := HY.out.at hj
              obtain ⟨mp, hmp⟩ : ∃ p, p = ys[j] := ⟨_, rfl⟩
              have HFJ : Hid (∃ (e : Nat) (he : e < xs.length), sameM xs[e] mp = true) := Lib.hid (by rw [hmp]; exact HFT.out j hj)
              replace hc : ∀ u v, (mgc mp)[u]? = some v → wr.cell? ⟨by', oy + j * 12 + u, none⟩ = some v := by rw [hmp]; exact hc
              obtain ⟨c0, c1', c2', c3', c4, c5, c6, c7, c8, c9, c10, c11⟩ := mgc_at hc
              have HTT := Lib.hid HT
              clear hmp hc hbl HT hj hjl
              go_upto_region 17 with fail
              have HN := Lib.hid (HTT.out.new #[.int .i64 mp.1.1, .int .i64 mp.1.2.1, .int .i64 mp.1.2.2, .int .i64 mp.2.1.1, .int .i64 mp.2.1.2.1, .int .i64 mp.2.1.2.2, .int .i64 mp.2.2.1.1, .int .i64 mp.2.2.1.2.1, .int .i64 mp.2.2.1.2.2, .int .i64 mp.2.2.2.1, .int .i64 mp.2.2.2.2.1, .int .i64 mp.2.2.2.2.2] 45)
              have HL := ((Held.nil wr).alloc (.cells #[.int .i64 mp.1.1, .int .i64 mp.1.2.1, .int .i64 mp.1.2.2, .int .i64 mp.2.1.1, .int .i64 mp.2.1.2.1, .int .i64 mp.2.1.2.2, .int .i64 mp.2.2.1.1, .int .i64 mp.2.2.1.2.1, .int .i64 mp.2.2.1.2.2, .int .i64 mp.2.2.2.1, .int .i64 mp.2.2.2.2.1, .int .i64 mp.2.2.2.2.2] 45)).below
              have HX := Lib.hid (HX.out.later HL)
              have HQ := Lib.hid (HQ.out.later HL)
              have HY := Lib.hid (HY.out.later HL)
              clear HL HTT c0 c1' c2' c3' c4 c5 c6 c7 c8 c9 c10 c11
              obtain ⟨W3, hW3⟩ : ∃ X, X = wr.alloc (.cells #[.int .i64 mp.1.1, .int .i64 mp.1.2.1, .int .i64 mp.1.2.2, .int .i64 mp.2.1.1, .int .i64 mp.2.1.2.1, .int .i64 mp.2.1.2.2, .int .i64 mp.2.2.1.1, .int .i64 mp.2.2.1.2.1, .int .i64 mp.2.2.1.2.2, .int .i64 mp.2.2.2.1, .int .i64 mp.2.2.2.2.1, .int .i64 mp.2.2.2.2.2] 45) := ⟨_, rfl⟩
              rw [← hW3] at HN HX HQ HY ⊢
              clear hW3
              generalize wr.heap.size = km at HN ⊢
              go_wp2_with fail
              go_loopw [14, 64] (fun fv lv wr => ∃ (f : Bool) (l : Nat), l ≤ xs.length ∧ fv = .bool f ∧ lv = .int .i64 l ∧ (f = false → ∀ e (he : e < xs.length), e < l → sameM xs[e] mp = false) ∧ Held w wr ((km, [.int .i64 mp.1.1, .int .i64 mp.1.2.1, .int .i64 mp.1.2.2, .int .i64 mp.2.1.1, .int .i64 mp.2.1.2.1, .int .i64 mp.2.1.2.2, .int .i64 mp.2.2.1.1, .int .i64 mp.2.2.1.2.1, .int .i64 mp.2.2.1.2.2, .int .i64 mp.2.2.2.1, .int .i64 mp.2.2.2.2.1, .int .i64 mp.2.2.2.2.2]) :: [(kp, [.int .i64 p0, .int .i64 p1, .int .i64 p2, .int .i64 p3, .int .i64 p4, .int .i64 p5, .int .i64 p6, .int .i64 p7, .int .i64 p8, .int .i64 px, .int .i64 py, .int .i64 pz]), (kc, [.int .i64 q0, .int .i64 q1, .int .i64 q2, .int .i64 q3, .bool q4, .int .i64 q5, .int .i64 q6])]) ∧ RowC 12 mgc wr wr.heap.size A1 xs ∧ RowC 3 vg wr wr.heap.size (some ⟨bq, oq, none⟩) (quar 0 0 1) ∧ RowC 12 mgc wr wr.heap.size (some ⟨by', oy, none⟩) ys) (fun _ lv _ => xs.length - (intOf lv).toNat)
              case atStart => exact ⟨false, 0, by omega, rfl, rfl, fun _ e _ h => absurd h (Nat.not_lt_zero _), HN.out, HX.out, HQ.out, HY.out⟩
              case round =>
                clear HN HX HQ HY
                obtain ⟨f, l, hll, rfl, rfl, hno, HT, hx, hq, hy⟩ := hrel
                have HX := Lib.hid hx
                have HQ := Lib.hid hq
                have HY := Lib.hid hy
                have HNO := Lib.hid hno
                clear hx hq hy hno
                have hxl := HXL.out
                by_cases hl : l < xs.length
                case neg =>
                  obtain rfl : l = xs.length := by omega
                  have hjl := HJ.out
                  rcases f with _ | _
                  · obtain ⟨e, he, h1⟩ := HFJ.out
                    rw [HNO.out rfl e he he] at h1
                    cases h1
                  · clear HFJ HNO hl hll
                    go_wp2_with fail
                    go_roundw
                    case rel => exact ⟨j + 1, by omega, by go_num, HT.tail, HX.out, HQ.out, HY.out⟩
                    case measure => simp [intOf]; omega
                case pos =>
                  have HLL := Lib.hid hl
                  have hl' : (l : Int) < (xs.length : Int) := by omega
                  have h0l : (0 : Int) ≤ (l : Int) := by omega
                  obtain ⟨bx, ox, rfl, hbl, hc⟩ := HX.out.at hl
                  obtain ⟨rp, hrp⟩ : ∃ p, p = xs[l] := ⟨_, rfl⟩
                  have HST : Hid (f = false → sameM rp mp = false → ∀ e (he : e < xs.length), e < l + 1 → sameM xs[e] mp = false) := Lib.hid (fun hf hs e he h => by
                    by_cases e1 : e < l
                    · exact HNO.out hf e he e1
                    · obtain rfl : e = l := by omega
                      rw [hrp] at hs; exact hs)
                  replace hc : ∀ u v, (mgc rp)[u]? = some v → wr.cell? ⟨bx, ox + l * 12 + u, none⟩ = some v := by rw [hrp]; exact hc
                  obtain ⟨c0, c1', c2', c3', c4, c5, c6, c7, c8, c9, c10, c11⟩ := mgc_at hc
                  have HTT := Lib.hid HT
                  clear hrp hc hbl HT HNO
                  go_upto_region 21 with fail
                  have HN := HTT.out.new #[.int .i64 rp.1.1, .int .i64 rp.1.2.1, .int .i64 rp.1.2.2, .int .i64 rp.2.1.1, .int .i64 rp.2.1.2.1, .int .i64 rp.2.1.2.2, .int .i64 rp.2.2.1.1, .int .i64 rp.2.2.1.2.1, .int .i64 rp.2.2.1.2.2, .int .i64 rp.2.2.2.1, .int .i64 rp.2.2.2.2.1, .int .i64 rp.2.2.2.2.2] 45
                  have HL := ((Held.nil wr).alloc (.cells #[.int .i64 rp.1.1, .int .i64 rp.1.2.1, .int .i64 rp.1.2.2, .int .i64 rp.2.1.1, .int .i64 rp.2.1.2.1, .int .i64 rp.2.1.2.2, .int .i64 rp.2.2.1.1, .int .i64 rp.2.2.1.2.1, .int .i64 rp.2.2.1.2.2, .int .i64 rp.2.2.2.1, .int .i64 rp.2.2.2.2.1, .int .i64 rp.2.2.2.2.2] 45)).below
                  have HX := Lib.hid (HX.out.later HL)
                  have HQ := Lib.hid (HQ.out.later HL)
                  have HY := Lib.hid (HY.out.later HL)
                  clear HL HTT c0 c1' c2' c3' c4 c5 c6 c7 c8 c9 c10 c11
                  have heq := eqm_mic rp mp
                  obtain ⟨bb, hbb⟩ : ∃ b, b = sameM rp mp := ⟨_, rfl⟩
                  rw [← hbb] at heq HST
                  clear hbb
                  have n0 := (HN.box 0).c 0
                  have n1 := (HN.box 0).c 1
                  have n2 := (HN.box 0).c 2
                  have n3 := (HN.box 0).c 3
                  have n4 := (HN.box 0).c 4
                  have n5 := (HN.box 0).c 5
                  have n6 := (HN.box 0).c 6
                  have n7 := (HN.box 0).c 7
                  have n8 := (HN.box 0).c 8
                  have n9 := (HN.box 0).c 9
                  have n10 := (HN.box 0).c 10
                  have n11 := (HN.box 0).c 11
                  have m0 := (HN.box 1).c 0
                  have m1 := (HN.box 1).c 1
                  have m2 := (HN.box 1).c 2
                  have m3 := (HN.box 1).c 3
                  have m4 := (HN.box 1).c 4
                  have m5 := (HN.box 1).c 5
                  have m6 := (HN.box 1).c 6
                  have m7 := (HN.box 1).c 7
                  have m8 := (HN.box 1).c 8
                  have m9 := (HN.box 1).c 9
                  have m10 := (HN.box 1).c 10
                  have m11 := (HN.box 1).c 11
                  have HT := Lib.hid HN.tail
                  clear HN
                  have hlw := HLL.out
                  rcases f with _ | _
                  · go_wp2_with fail
                    go_roundw
                    case rel => exact ⟨bb, l + 1, by omega, rfl, by go_num, fun hb => HST.out rfl hb, HT.out, HX.out, HQ.out, HY.out⟩
                    case measure => simp [intOf]; omega
                  · go_wp2_with fail
                    go_roundw
                    case rel => exact ⟨true, l + 1, by omega, rfl, by go_num, fun hb => (by cases hb), HT.out, HX.out, HQ.out, HY.out⟩
                    case measure => simp [intOf]; omega

set_option maxRecDepth 100000 in
theorem lifted (os : Os) (started : os.Started) (H : Type) (enc : TypeId × Value → H) :
    ReturnsInHanded {} Try.checked os 3 .any (Rows.fnDicingSpec.pre6 enc Try.prog Try.f3 Rows.fnDicingRow.domain false) (Rows.fnDicingSpec.post enc Try.prog Try.f3 false true false false) := by
  refine returnsInHanded_of_change (C := Try.checked) own started (by kernel_rfl) Try.func3
    (ChangeSpec.witness6 (enc := enc) (C := Try.checked) false ⟨#[], #[.slice none 0 0], []⟩ 8 (by kernel_rfl) (by kernel_rfl) (by kernel_rfl) (by kernel_rfl)) ?_
  intro W base args ds gs before hval0 hW hcnd _
  have hval : ∀ (j : Nat) t v, Try.f3.params[j]? = some t → args[j]? = some v → Value.okWide Try.prog W .any base t v := hval0
  have hW' := hW
  obtain ⟨p, q, hA0, hV, rfl, hfz, hnd⟩ := hW
  have hA : DataW.TrodAll enc Try.prog W 0 (fun _ => true) true Try.f3.params.toList args.toList ds p := hA0
  rw [Try.params3] at hA hval
  obtain ⟨v0, vs0, d0, ds0, p0, q0, hargs, rfl, rfl, h0, r1000⟩ := trodAll_cons hA
  obtain ⟨rfl, rfl, rfl⟩ := trodAll_nil r1000
  obtain rfl : args = #[v0] := by cases args; simp_all
  obtain ⟨rfl, rfl⟩ := trodVars_none hV
  obtain ⟨a0, len0, cap0, rfl⟩ := okWide_slice Try.underlying22 (hval 0 22 v0 rfl rfl)
  have k0 := h0
  have lt0 : ∀ x ∈ p0, x.block < W.heap.size := by obtain ⟨m, hm⟩ := k0; exact DataW.trod_lt m _ _ _ hm
  obtain ⟨x0, rfl, r0, m0, w0⟩ : ∃ xs : List Int, len0 = xs.length ∧ Row (Value.int .u8) W W.heap.size a0 xs ∧ xs.length ≤ maxLen ∧ ∀ x ∈ xs, (Lit.int .u8 x).wf = true := by
    obtain ⟨fuel, hf⟩ := h0
    rcases open_ints Try.underlying22 Try.underlying5 (by kernel_rfl) hf with ⟨hcs, _⟩ | ⟨x, l, c, zs, hcs, _, hl, hm, hz, _, hcell, hwz⟩
    · simp [Value.cells] at hcs
      obtain ⟨rfl, rfl, rfl⟩ := hcs
      exact ⟨[], rfl, Row.nil, Nat.zero_le _, fun x hx => by cases hx⟩
    · simp [Value.cells] at hcs
      obtain ⟨rfl, rfl, rfl⟩ := hcs
      exact row_of_cells (d := (0 : Int)) hl hm (by simpa using hz) hcell hwz
  clear hA0
  refine (walk W a0 cap0 x0 r0 m0 w0).mono fun e W' ⟨he, bel⟩ => ?_
  subst he
  exact ⟨_, rfl, _, _, _, [], _, [], hW', trodAll_mk1 (shut_bool Try.underlying4 _), (trodAll_cons_mk (Below.trod laidOut (by kernel_rfl) (of_decide_eq_true (by kernel_rfl)) k0 bel lt0) trodAll_mk0), rfl, bel.frame _, fun h => by cases h⟩

theorem proved : Rows.FnDicingSaid :=
  OpenClaim.holds_of_wide 3 Try.f3 rfl rfl rfl rfl rfl rfl rfl ⟨rfl, rfl, rfl, rfl, rfl⟩ rfl rfl rfl rfl rfl (by kernel_rfl) Try.func3 (by kernel_rfl)
    (of_decide_eq_true (by kernel_rfl)) (by unfold Func.isWrapper; first | (rw [if_pos (by decide +kernel)]; kernel_rfl) | (rw [if_neg (by decide +kernel)]; exact ⟨rfl, rfl⟩))
    (fun os started H enc _ => lifted os started H enc)
#print axioms proved
end Go.Proofs.Ytmhcpjednogegaa.fnDicing
