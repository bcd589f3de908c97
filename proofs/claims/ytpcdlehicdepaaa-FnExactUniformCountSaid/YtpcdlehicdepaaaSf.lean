/- The checker of the model: Check. -/
import Derived.Test.YtpcdlehicdepaaaProg
import Derived.Test.YtpcdlehicdepaaaInts
import Derived.Test.YtpcdlehicdepaaaVbox
import Derived.Test.YtpcdlehicdepaaaHeld
import Derived.Test.YtpcdlehicdepaaaMem
import Derived.Test.YtpcdlehicdepaaaFlat
import Derived.Test.YtpcdlehicdepaaaRowC
import Derived.Test.YtpcdlehicdepaaaKS
import Derived.Test.YtpcdlehicdepaaaStrS
import Derived.Test.YtpcdlehicdepaaaIntS
import Derived.Test.YtpcdlehicdepaaaSS
import Derived.Test.YtpcdlehicdepaaaPg
import Derived.Test.YtpcdlehicdepaaaPh
import Derived.Test.YtpcdlehicdepaaaPi
import Derived.Test.YtpcdlehicdepaaaIdent
import Derived.Test.YtpcdlehicdepaaaPn
import Derived.Test.YtpcdlehicdepaaaQa
import Derived.Test.YtpcdlehicdepaaaQb
import Derived.Test.YtpcdlehicdepaaaQd
import Derived.Test.YtpcdlehicdepaaaQe
import Derived.Test.YtpcdlehicdepaaaSa
import Derived.Test.YtpcdlehicdepaaaSb
import Derived.Test.YtpcdlehicdepaaaSc
import Derived.Test.YtpcdlehicdepaaaSd
import Derived.Test.YtpcdlehicdepaaaSe
import Derived.WalkKit
import Derived.WalkSpells
import Derived.WalkLawsBesides
import Derived.Lib.Hide
import Derived.Deep.RegionHeld3
import Derived.Deep.QuietTactic
import Derived.BigQuiet
import Derived.Handy
import Derived.Deep.DeepCutAuto
import Derived.OwnWalk
namespace Go.Proofs.Ytpcdlehicdepaaa
open Go.RowKit

section
variable {xs : List Nd} {ys : List As} {i : Nat}
theorem chk_bad (h : ¬ okPr xs ys) : chkP xs ys = (1, 0) := by unfold chkP; rw [if_neg h]
theorem chk_n (h : okPr xs ys) (h1 : firstB xs.length (badN xs ys) = some i) : chkP xs ys = (2, (i : Int)) := by unfold chkP chkV; rw [if_pos h, h1]
theorem chk_r (h : okPr xs ys) (h1 : firstB xs.length (badN xs ys) = none) (h2 : firstB xs.length (badR xs) = some i) : chkP xs ys = (3, (i : Int)) := by unfold chkP chkV; rw [if_pos h, h1, h2]
theorem chk_s (h : okPr xs ys) (h1 : firstB xs.length (badN xs ys) = none) (h2 : firstB xs.length (badR xs) = none) (h3 : firstB ys.length (badS ys) = some i) : chkP xs ys = (4, (i : Int)) := by unfold chkP chkV; rw [if_pos h, h1, h2, h3]
theorem chk_c (h : okPr xs ys) (h1 : firstB xs.length (badN xs ys) = none) (h2 : firstB xs.length (badR xs) = none) (h3 : firstB ys.length (badS ys) = none) (h4 : asgd ys ⟨#[99, 111, 108, 111, 114]⟩ ys.length < 0) : chkP xs ys = (5, 0) := by unfold chkP chkV; rw [if_pos h, h1, h2, h3]; simp only; rw [if_pos h4]
theorem chk_0 (h : okPr xs ys) (h1 : firstB xs.length (badN xs ys) = none) (h2 : firstB xs.length (badR xs) = none) (h3 : firstB ys.length (badS ys) = none) (h4 : ¬ asgd ys ⟨#[99, 111, 108, 111, 114]⟩ ys.length < 0) : chkP xs ys = (0, 0) := by unfold chkP chkV; rw [if_pos h, h1, h2, h3]; simp only; rw [if_neg h4]
end

set_option maxRecDepth 100000 in
set_option maxHeartbeats 8000000 in
theorem sCheck_any (A A' : Option Addr) (c c' : Nat) (xs : List Nd) (ys : List As) (w : World) (hR : ProgIn w w.heap.size A A' xs ys) (hl : xs.length ≤ 1048576) (hl2 : ys.length ≤ 1048576) (hz : (argsL xs).length ≤ 1099511627776) (hx : ∀ x ∈ xs, x.2.1.size ≤ 1048576 ∧ x.2.2.2.length ≤ 1048576) (hy : ∀ y ∈ ys, y.1.size ≤ 1048576) :
    Calls Try.prog 21 #[pgv A A' xs.length c ys.length c'] w fun e w' => e = .returned (.tuple #[.int .i64 (chkP xs ys).1, .int .i64 (chkP xs ys).2]) ∧ Below w.heap.size w w' := by
  have HVC := Lib.hid (fun W (h : ProgIn W W.heap.size A A' xs ys) => sIsValidProg_any A A' c c' xs ys W h hl hl2 hz hx hy)
  have HXS := Lib.hid (fun x (h : x ∈ xs) => (hx x h).2)
  clear hz hx hy
  obtain ⟨W1, hW1⟩ : ∃ W, W = w.alloc (.cells #[.slice A xs.length c, .slice A' ys.length c'] 35) := ⟨_, rfl⟩
  have M := Mbox.new w #[.slice A xs.length c, .slice A' ys.length c'] 35
  have hB : Below w.heap.size w (w.alloc (.cells #[.slice A xs.length c, .slice A' ys.length c'] 35)) := by go_grown
  have hR1 := (hR.alloc (Nat.le_refl _) (.cells #[.slice A xs.length c, .slice A' ys.length c'] 35)).more (B' := (w.alloc (.cells #[.slice A xs.length c, .slice A' ys.length c'] 35)).heap.size) (by simp)
  rw [← hW1] at M hB hR1
  have HM := Lib.hid M
  have HB := Lib.hid hB
  have HR := Lib.hid hR1
  clear M hB hR hR1
  go_enter Try.func21, Try.ntmps21
  go_upto_region 1 with fail
  rw [← hW1]
  clear hW1
  have m0 := HM.out.c 0
  have m1 := HM.out.c 1
  go_wp2_with fail
  refine (HVC.out _ HR.out).mono ?_
  rintro e w2 hq
  obtain ⟨v, rfl, hv, hb2⟩ := hq
  have HM2 := Lib.hid (HM.out.later hb2)
  have HB2 := Lib.hid (HB.out.trans (hb2.mono HB.out.size))
  have HR2 := Lib.hid (HR.out.later hb2)
  clear m0 m1 HB HR HM
  cases v with
  | false =>
    have HC1 := Lib.hid (chk_bad (fun k => by have := hv.2 k; cases this))
    clear hv hb2
    go_wp2_with fail
    exact bodyPost_ret (v := .tuple #[.int .i64 1, .int .i64 0]) (by simp [results, Try.results21, go_sem]) rfl ⟨by rw [HC1.out], HB2.out⟩
  | true =>
    have hok : okPr xs ys := hv.1 rfl
    have h60 : xs.length ≤ 60 := hok.1
    have hy60 : ys.length ≤ 60 := by have := okPr_len hok; omega
    have HOK := Lib.hid hok
    have HNC := Lib.hid (sNames_any A A' c c' xs ys w2 HR2.out hok (fun x h => HXS.out x h))
    obtain ⟨nm, hnm⟩ : ∃ n, n = namP xs ys := ⟨_, rfl⟩
    rw [← hnm] at HNC
    have HNM := Lib.hid hnm
    have m0 := HM2.out.c 0
    have m1 := HM2.out.c 1
    clear hv hb2 hok hnm
    go_wp2_with fail
    refine HNC.out.mono ?_
    rintro e w3 ⟨rfl, hb3⟩
    have HM3 := Lib.hid (HM2.out.later hb3)
    have HB3 := Lib.hid (HB2.out.trans (hb3.mono HB2.out.size))
    have HR3 := Lib.hid (HR2.out.later hb3)
    clear hb3 m0 m1 HNC HB2 HR2 HM2
    cases hf : firstB xs.length (badN xs ys) with
    | some i =>
      have hnm : nm = (i : Int) := by rw [HNM.out]; unfold namP; rw [hf]
      have HC1 := Lib.hid (chk_n HOK.out hf)
      subst hnm
      clear hf
      go_wp2_with fail
      exact bodyPost_ret (v := .tuple #[.int .i64 2, .int .i64 i]) (by simp [results, Try.results21, go_sem]) rfl ⟨by rw [HC1.out], HB3.out⟩
    | none =>
      have hnm : nm = -1 := by rw [HNM.out]; unfold namP; rw [hf]
      have HN1 := Lib.hid hf
      subst hnm
      have m0 := HM3.out.c 0
      have m1 := HM3.out.c 1
      clear hf HNM
      go_wp2_with fail
      go_loopw [20] (fun i wr => ∃ k : Nat, k ≤ xs.length ∧ i = .int .i64 k ∧ Below w3.heap.size w3 wr ∧ ∀ j, j < k → badR xs j = false) (fun i _ => xs.length - (intOf i).toNat)
      case atStart => exact ⟨0, Nat.zero_le _, rfl, Below.refl _ _, fun j h => by omega⟩
      case round =>
        clear m0 m1
        obtain ⟨k, hk, rfl, hb, hno⟩ := hrel
        have HNO := Lib.hid hno
        clear hno
        by_cases hlt : k < xs.length
        · obtain ⟨bb, o, rfl, hbl, a, ca, c0, c1, c2, c3, hca1, hca2, hrow⟩ := HR3.out.1.at hlt
          have c0 := (hb.cell (p := ⟨bb, o + k * 4, none⟩) hbl).trans c0
          have c1 := (hb.cell (p := ⟨bb, o + k * 4 + 1, none⟩) hbl).trans c1
          have c2 := (hb.cell (p := ⟨bb, o + k * 4 + 2, none⟩) hbl).trans c2
          have c3 := (hb.cell (p := ⟨bb, o + k * 4 + 3, none⟩) hbl).trans c3
          have hl3 := HXS.out _ (List.getElem_mem hlt)
          obtain ⟨v, hv⟩ : ∃ v, v = xs[k] := ⟨_, rfl⟩
          rw [← hv] at c0 c1 c2 c3 hca1 hl3
          have HV : Hid (ndA xs k = v) := Lib.hid (by unfold ndA; rw [getD_at hlt]; exact hv.symm)
          obtain ⟨v0, v1, v2, v3⟩ := v
          dsimp only at c0 c1 c2 c3 hca1 hl3
          have hlt' : (k : Int) < (xs.length : Int) := by omega
          have hge' : (0 : Int) ≤ (k : Int) := by omega
          have hb2 : Below wr.heap.size wr (wr.alloc (.cells #[.int .i64 v0, .string v1, .int .i64 v2, .slice a v3.length ca] 56)) := by go_grown
          have hb := hb.trans (hb2.mono hb.size)
          clear hrow hv hca1 hca2 hbl hb2
          go_upto_region 9 with fail
          obtain ⟨W2, hW2⟩ : ∃ W, W = wr.alloc (.cells #[.int .i64 v0, .string v1, .int .i64 v2, .slice a v3.length ca] 56) := ⟨_, rfl⟩
          obtain ⟨g, hg⟩ : ∃ g, g = wr.heap.size := ⟨_, rfl⟩
          have M2 := Mbox.new wr #[.int .i64 v0, .string v1, .int .i64 v2, .slice a v3.length ca] 56
          rw [← hW2] at M2 hb ⊢
          rw [← hg] at M2 ⊢
          clear hW2 hg c0 c1 c2 c3
          have HT : Held W2 W2 [(g, [.int .i64 v0, .string v1, .int .i64 v2, .slice a v3.length ca])] := (Held.nil W2).cons M2
          have HC : ∀ W', Held W2 W' [(g, [.int .i64 v0, .string v1, .int .i64 v2, .slice a v3.length ca])] → W'.cell? ⟨g, 0, none⟩ = some (.int .i64 v0) ∧ W'.cell? ⟨g, 1, none⟩ = some (.string v1) ∧ W'.cell? ⟨g, 3, none⟩ = some (.slice a v3.length ca) := fun W' h => ⟨(h.box 0).c 0, (h.box 0).c 1, (h.box 0).c 3⟩
          have HAR := Lib.hid (fun W => sArity_any v1 W)
          obtain ⟨r, hr⟩ : ∃ r, r = arN v1 := ⟨_, rfl⟩
          rw [← hr] at HAR
          obtain ⟨B1, hB1⟩ : ∃ B : Bool, B = (decide (v0 = 8) && (r != (v3.length : Int))) := ⟨_, rfl⟩
          have HB1 := Lib.hid hB1
          have HBD : Hid (badR xs k = B1) := Lib.hid (by
            unfold badR
            rw [HV.out, hB1, hr]
            simp only
            congr 1
            by_cases e : arN v1 = (v3.length : Int) <;> simp [e])
          have HBW := Lib.hid hb
          clear hb M2 hr hB1
          go_cut [36] (fun y wx => y = .bool B1 ∧ Held W2 wx [(g, [.int .i64 v0, .string v1, .int .i64 v2, .slice a v3.length ca])])
          case first =>
            by_cases e2 : v0 = 8
            · have b2 : (v0 == 8) = true := by simp [e2]
              rw [decide_eq_true e2] at HB1
              clear e2
              go_region_held3 (fun W' => W'.cell? ⟨g, 0, none⟩ = some (.int .i64 v0) ∧ W'.cell? ⟨g, 1, none⟩ = some (.string v1) ∧ W'.cell? ⟨g, 3, none⟩ = some (.slice a v3.length ca))
                (first | (with_reducible exact HC _ HT) | (with_reducible exact HC _ HT.drew))
                ((go_at_call 14; (with_reducible refine (HAR.out _).mono ?_); rintro e w7 ⟨rfl, hb7⟩; (first | (have HT := HT.later hb7) | (have HT := HT.drew.later hb7))))
              all_goals (go_wp2_with fail; go_meet)
              all_goals (first | exact ⟨by rw [HB1.out]; rfl, HT⟩ | exact ⟨by rw [HB1.out]; rfl, HT.drew⟩)
            · have b2 : (v0 == 8) = false := by simp [e2]
              rw [decide_eq_false e2] at HB1
              clear e2
              obtain ⟨q0, q1, q2⟩ := HC _ HT
              clear HC
              go_quiet (fail)
              go_wp2_with fail
              go_meet
              exact ⟨by rw [HB1.out]; rfl, HT.drewN nq⟩
          case rest =>
            clear HC HT HAR
            obtain ⟨rfl, HT⟩ := hcut
            have HBX := Lib.hid (HBW.out.trans (HT.below.mono HBW.out.size))
            cases B1 with
            | true =>
              have HC1 := Lib.hid (chk_r HOK.out HN1.out (first_some hlt (by rw [HBD.out]) HNO.out))
              have HF2 := Lib.hid (HB3.out.trans (HBX.out.mono HB3.out.size))
              clear HT
              go_wp2_with fail
              exact bodyPost_ret (v := .tuple #[.int .i64 3, .int .i64 k]) (by simp [results, Try.results21, go_sem]) rfl ⟨by rw [HC1.out], HF2.out⟩
            | false =>
              have HN2 : Hid (∀ j, j < k + 1 → badR xs j = false) := Lib.hid (fun j hj => by
                by_cases e : j = k
                · rw [e, HBD.out]
                · exact HNO.out j (by omega))
              clear HT
              go_wp2_with fail
              go_roundw
              case rel => exact ⟨k + 1, by omega, by go_num, HBX.out, HN2.out⟩
              case measure => simp [intOf]; omega
        · obtain rfl : k = xs.length := by omega
          have HN2 := Lib.hid (first_none HNO.out)
          have HM4 := Lib.hid (HM3.out.later hb)
          have HB4 := Lib.hid (HB3.out.trans (hb.mono HB3.out.size))
          have HR4 := Lib.hid (HR3.out.later hb)
          have m0 := HM4.out.c 0
          have m1 := HM4.out.c 1
          have hge2 : ¬ ((xs.length : Nat) : Int) < ((xs.length : Nat) : Int) := by omega
          obtain ⟨w4, hw4⟩ : ∃ w4, w4 = wr := ⟨_, rfl⟩
          rw [← hw4] at HM4 HB4 HR4 m0 m1 ⊢
          clear hb hw4 HNO HM3 HB3 HR3 hk hlt
          go_wp2_with fail
          go_loopw [42] (fun i wr => ∃ k : Nat, k ≤ ys.length ∧ i = .int .i64 k ∧ Below w4.heap.size w4 wr ∧ ∀ j, j < k → badS ys j = false) (fun i _ => ys.length - (intOf i).toNat)
          case atStart => exact ⟨0, Nat.zero_le _, rfl, Below.refl _ _, fun j h => by omega⟩
          case round =>
            clear m0 m1 hge2
            obtain ⟨k, hk, rfl, hb, hno⟩ := hrel
            have HNO := Lib.hid hno
            clear hno
            by_cases hlt : k < ys.length
            · obtain ⟨bb, o, rfl, hbl, hc⟩ := HR4.out.2.at hlt
              obtain ⟨c0, c1⟩ := asg_at hc
              have c0 := (hb.cell (p := ⟨bb, o + k * 2, none⟩) hbl).trans c0
              have c1 := (hb.cell (p := ⟨bb, o + k * 2 + 1, none⟩) hbl).trans c1
              obtain ⟨v, hv⟩ : ∃ v, v = ys[k] := ⟨_, rfl⟩
              rw [← hv] at c0 c1
              have HV : Hid (ys.getD k (⟨#[]⟩, 0) = v) := Lib.hid (by rw [getD_at hlt]; exact hv.symm)
              obtain ⟨v0, v1⟩ := v
              dsimp only at c0 c1
              have hlt' : (k : Int) < (ys.length : Int) := by omega
              have hge' : (0 : Int) ≤ (k : Int) := by omega
              have hb2 : Below wr.heap.size wr (wr.alloc (.cells #[.string v0, .int .i64 v1] 58)) := by go_grown
              have hm := (HM4.out.later hb).later hb2
              have hr := (HR4.out.later hb).later hb2
              have hb := hb.trans (hb2.mono hb.size)
              clear hc hv hbl hb2
              go_upto_region 15 with fail
              obtain ⟨W2, hW2⟩ : ∃ W, W = wr.alloc (.cells #[.string v0, .int .i64 v1] 58) := ⟨_, rfl⟩
              have M2 := Mbox.new wr #[.string v0, .int .i64 v1] 58
              rw [← hW2] at M2 hm hr hb ⊢
              have n0 := M2.c 0
              have HVAR := Lib.hid (sVar_any v0 W2)
              obtain ⟨vb, hvb⟩ : ∃ b, b = varB v0 := ⟨_, rfl⟩
              rw [← hvb] at HVAR
              obtain ⟨q, hq⟩ : ∃ q, q = asgd ys v0 (k : Int) := ⟨_, rfl⟩
              have HAS := Lib.hid (fun W (h : Below W2.heap.size W2 W) => sAsgd_any _ _ c c' xs ys v0 (k : Int) W (hr.later h) (by omega))
              rw [← hq] at HAS
              have HBD : Hid (badS ys k = (vb || decide (0 ≤ q))) := Lib.hid (by unfold badS; rw [HV.out, hvb, hq])
              have HBW := Lib.hid hb
              have HMW := Lib.hid hm
              have HMV := Lib.hid M2
              clear hW2 c0 c1 hm hr hb M2 hvb hq
              go_wp2_with fail
              refine HVAR.out.mono ?_
              rintro e w7 ⟨rfl, hb7⟩
              have HBX := Lib.hid (HBW.out.trans (hb7.mono HBW.out.size))
              cases vb with
              | true =>
                have HC1 := Lib.hid (chk_s HOK.out HN1.out HN2.out (first_some hlt (by rw [HBD.out]; rfl) HNO.out))
                have HF2 := Lib.hid (HB4.out.trans (HBX.out.mono HB4.out.size))
                clear hb7 n0
                go_wp2_with fail
                exact bodyPost_ret (v := .tuple #[.int .i64 4, .int .i64 k]) (by simp [results, Try.results21, go_sem]) rfl ⟨by rw [HC1.out], HF2.out⟩
              | false =>
                have m0 := (HMW.out.later hb7).c 0
                have m1 := (HMW.out.later hb7).c 1
                have n0 := (HMV.out.later hb7).c 0
                have HAS2 := Lib.hid (HAS.out _ hb7)
                clear hb7
                go_wp2_with fail
                refine HAS2.out.mono ?_
                rintro e w8 ⟨rfl, hb8⟩
                have HBY := Lib.hid (HBX.out.trans (hb8.mono HBX.out.size))
                clear hb8 m0 m1 n0
                by_cases hq0 : 0 ≤ q
                · have HC1 := Lib.hid (chk_s HOK.out HN1.out HN2.out (first_some hlt (by rw [HBD.out, decide_eq_true hq0]; rfl) HNO.out))
                  have HF2 := Lib.hid (HB4.out.trans (HBY.out.mono HB4.out.size))
                  go_wp2_with fail
                  exact bodyPost_ret (v := .tuple #[.int .i64 4, .int .i64 k]) (by simp [results, Try.results21, go_sem]) rfl ⟨by rw [HC1.out], HF2.out⟩
                · have HN3 : Hid (∀ j, j < k + 1 → badS ys j = false) := Lib.hid (fun j hj => by
                    by_cases e : j = k
                    · rw [e, HBD.out, decide_eq_false hq0]
                      rfl
                    · exact HNO.out j (by omega))
                  go_wp2_with fail
                  go_roundw
                  case rel => exact ⟨k + 1, by omega, by go_num, HBY.out, HN3.out⟩
                  case measure => simp [intOf]; omega
            · obtain rfl : k = ys.length := by omega
              have HN3 := Lib.hid (first_none HNO.out)
              have HM5 := Lib.hid (HM4.out.later hb)
              have HB5 := Lib.hid (HB4.out.trans (hb.mono HB4.out.size))
              have HAS := Lib.hid (sAsgd_any _ _ c c' xs ys ⟨#[99, 111, 108, 111, 114]⟩ (ys.length : Int) wr (HR4.out.later hb) (by omega))
              obtain ⟨q, hq⟩ : ∃ q, q = asgd ys ⟨#[99, 111, 108, 111, 114]⟩ (ys.length : Int) := ⟨_, rfl⟩
              rw [← hq] at HAS
              have HQ := Lib.hid hq
              have m0 := HM5.out.c 0
              have m1 := HM5.out.c 1
              have hge2 : ¬ ((ys.length : Nat) : Int) < ((ys.length : Nat) : Int) := by omega
              clear hb hq
              go_wp2_with fail
              refine HAS.out.mono ?_
              rintro e w8 ⟨rfl, hb8⟩
              have HF2 := Lib.hid (HB5.out.trans (hb8.mono HB5.out.size))
              clear hb8 m0 m1
              by_cases hq0 : q < 0
              · have HC1 := Lib.hid (chk_c HOK.out HN1.out HN2.out HN3.out (by rw [← HQ.out]; exact hq0))
                go_wp2_with fail
                exact bodyPost_ret (v := .tuple #[.int .i64 5, .int .i64 0]) (by simp [results, Try.results21, go_sem]) rfl ⟨by rw [HC1.out], HF2.out⟩
              · have HC1 := Lib.hid (chk_0 HOK.out HN1.out HN2.out HN3.out (by rw [← HQ.out]; exact hq0))
                go_wp2_with fail
                exact bodyPost_ret (v := .tuple #[.int .i64 0, .int .i64 0]) (by simp [results, Try.results21, go_sem]) rfl ⟨by rw [HC1.out], HF2.out⟩
end Go.Proofs.Ytpcdlehicdepaaa
