/- Check of the program. -/
import Derived.Test.YtpcdlehicdepaaaProg
import Derived.Test.YtpcdlehicdepaaaInts
import Derived.Test.YtpcdlehicdepaaaVbox
import Derived.Test.YtpcdlehicdepaaaHeld
import Derived.Test.YtpcdlehicdepaaaMem
import Derived.Test.YtpcdlehicdepaaaFlat
import Derived.Test.YtpcdlehicdepaaaRowC
import Derived.Test.YtpcdlehicdepaaaKS
import Derived.Test.YtpcdlehicdepaaaStrS
import Derived.Test.YtpcdlehicdepaaaIntS
import Derived.Test.YtpcdlehicdepaaaSS
import Derived.Test.YtpcdlehicdepaaaPg
import Derived.Test.YtpcdlehicdepaaaPh
import Derived.Test.YtpcdlehicdepaaaPi
import Derived.Test.YtpcdlehicdepaaaIdent
import Derived.Test.YtpcdlehicdepaaaPn
import Derived.Test.YtpcdlehicdepaaaQa
import Derived.Test.YtpcdlehicdepaaaQb
import Derived.Test.YtpcdlehicdepaaaQd
import Derived.Test.YtpcdlehicdepaaaQe
import Derived.Test.YtpcdlehicdepaaaSa
import Derived.Test.YtpcdlehicdepaaaSb
import Derived.Test.YtpcdlehicdepaaaQc
import Derived.Test.YtpcdlehicdepaaaSc
import Derived.Test.YtpcdlehicdepaaaSd
import Derived.Test.YtpcdlehicdepaaaSf
import Derived.Test.YtpcdlehicdepaaaSh
import Derived.Test.YtpcdlehicdepaaaSi
import Derived.Test.YtpcdlehicdepaaaSj
import Derived.Test.YtpcdlehicdepaaaSk
import Derived.Test.YtpcdlehicdepaaaSl
import Derived.Test.YtpcdlehicdepaaaSm
import Derived.Test.YtpcdlehicdepaaaPj
import Derived.Test.YtpcdlehicdepaaaPk
import Derived.Test.YtpcdlehicdepaaaPl
import Derived.Test.YtpcdlehicdepaaaPm
import Derived.WalkKit
import Derived.WalkSpells
import Derived.WalkLawsBesides
import Derived.Lib.Hide
import Derived.Deep.RegionHeld3
import Derived.Deep.QuietTactic
import Derived.BigQuiet
import Derived.Handy
import Derived.Deep.DeepCutAuto
import Derived.OwnWalk
import Derived.Shelf.Abstract
namespace Go.Proofs.Ytpcdlehicdepaaa
open Go.RowKit Go.Shelf

set_option maxRecDepth 100000 in
set_option maxHeartbeats 8000000 in
theorem notAsg_any (A A' : Option Addr) (c c' : Nat) (xs : List Nd) (ys : List As) (w : World) (hR : ProgIn w w.heap.size A A' xs ys) (hl2 : ys.length ≤ 1048576) :
    Calls Try.prog 44 #[pgv A A' xs.length c ys.length c'] w fun e w' => e = .returned (.int .i64 (fstI (firstB ys.length (badS ys)))) ∧ Below w.heap.size w w' := by
  obtain ⟨W1, hW1⟩ : ∃ W, W = w.alloc (.cells #[.slice A xs.length c, .slice A' ys.length c'] 35) := ⟨_, rfl⟩
  have M := Mbox.new w #[.slice A xs.length c, .slice A' ys.length c'] 35
  have hB : Below w.heap.size w (w.alloc (.cells #[.slice A xs.length c, .slice A' ys.length c'] 35)) := by go_grown
  have hR1 := (hR.alloc (Nat.le_refl _) (.cells #[.slice A xs.length c, .slice A' ys.length c'] 35)).more (B' := (w.alloc (.cells #[.slice A xs.length c, .slice A' ys.length c'] 35)).heap.size) (by simp)
  rw [← hW1] at M hB hR1
  have HM := Lib.hid M
  have HB := Lib.hid hB
  have HR := Lib.hid hR1
  clear M hB hR hR1
  go_enter Try.func44, Try.ntmps44
  go_upto_region 1 with fail
  rw [← hW1]
  clear hW1
  have m0 := HM.out.c 0
  have m1 := HM.out.c 1
  go_wp2_with fail
  refine (names_any A A' c c' xs ys W1 HR.out hl2).mono ?_
  rintro e w3 ⟨A4, c4, rfl, hr4, hc4, hm4, hb3⟩
  have HR4 := Lib.hid hr4
  have HB3 := Lib.hid (HB.out.trans (hb3.mono HB.out.size))
  clear m0 m1 hb3 hr4
  go_wp2_with fail
  go_loop [10] (fun i => ∃ k : Nat, k ≤ ys.length ∧ i = .int .i64 k ∧ ∀ j, j < k → badS ys j = false) (fun i => ys.length - (intOf i).toNat)
  case atStart => exact ⟨0, Nat.zero_le _, rfl, fun j h => by omega⟩
  case round =>
    obtain ⟨k, hk, rfl, hno⟩ := hrel
    have HNO := Lib.hid hno
    clear hno
    by_cases hlt : k < ys.length
    · obtain ⟨b, o, rfl, _, hc0⟩ := HR4.out.at (k := k) (by rw [nms_len]; exact hlt)
      obtain ⟨v, hv⟩ : ∃ v, v = (ys[k]).1 := ⟨_, rfl⟩
      have hc : w3.cell? ⟨b, o + k, none⟩ = some (.string v) := by rw [hc0, hv]; simp [nmsL]
      have hlt' : (k : Int) < (ys.length : Int) := by omega
      have hge' : (0 : Int) ≤ (k : Int) := by omega
      have hkc : (k : Int) ≤ (c4 : Int) := by omega
      have htl : ((nmsL ys).take k).length = k := by rw [List.length_take, nms_len]; omega
      have hct := contains_any (some ⟨b, o, none⟩) c4 w3.heap.size ((nmsL ys).take k) v w3 (HR4.out.take k) (by omega)
      rw [htl] at hct
      have HVR := Lib.hid (var_any v w3)
      have HBD : Hid (badS ys k = (varB v || inL ((nmsL ys).take k) v)) := Lib.hid (by
        unfold badS
        rw [getD_at hlt, ← hv]
        congr 1
        have h1 := asgd_iff ys v k hk
        rw [nms_take] at h1
        rw [Bool.eq_iff_iff, decide_eq_true_eq]
        exact h1)
      obtain ⟨p, hp⟩ : ∃ p, p = varB v := ⟨_, rfl⟩
      obtain ⟨q, hq⟩ : ∃ q, q = inL ((nmsL ys).take k) v := ⟨_, rfl⟩
      rw [← hp] at HVR HBD
      rw [← hq] at hct HBD
      have HCT := Lib.hid hct
      clear hct hc0 hv hp hq htl
      have HYES : Hid (p = true ∨ q = true → fstI (firstB ys.length (badS ys)) = (k : Int)) := Lib.hid (fun h => by
        rw [first_some hlt (by rw [HBD.out]; rcases h with rfl | rfl <;> simp) HNO.out]
        rfl)
      cases p with
      | true =>
        have HY := Lib.hid (HYES.out (.inl rfl))
        go_wp2_with fail
        refine HVR.out.mono ?_
        rintro e w8 ⟨rfl, rfl⟩
        go_wp2_with fail
        go_ret
        exact ⟨by rw [HY.out]; rfl, HB3.out⟩
      | false =>
        go_wp2_with fail
        refine HVR.out.mono ?_
        rintro e w8 ⟨rfl, rfl⟩
        go_wp2_with fail
        refine HCT.out.mono ?_
        rintro e w8 ⟨rfl, rfl⟩
        cases q with
        | true =>
          have HY := Lib.hid (HYES.out (.inr rfl))
          go_wp2_with fail
          go_ret
          exact ⟨by rw [HY.out]; rfl, HB3.out⟩
        | false =>
          have HN2 : Hid (∀ j, j < k + 1 → badS ys j = false) := Lib.hid (fun j hj => by
            by_cases e : j = k
            · rw [e, HBD.out]
              rfl
            · exact HNO.out j (by omega))
          go_wp2_with fail
          go_round
          case rel => exact ⟨k + 1, by omega, by go_num, HN2.out⟩
          case measure => simp [intOf]; omega
    · obtain rfl : k = ys.length := by omega
      have HF : Hid (firstB ys.length (badS ys) = none) := Lib.hid (first_none HNO.out)
      have hge2 : ¬ ((ys.length : Nat) : Int) < ((ys.length : Nat) : Int) := by omega
      go_wp2_with fail
      go_ret
      exact ⟨by rw [HF.out]; rfl, HB3.out⟩

set_option maxRecDepth 100000 in
set_option maxHeartbeats 8000000 in
theorem unknown_any (A A' : Option Addr) (c c' : Nat) (xs : List Nd) (ys : List As) (w : World) (hR : ProgIn w w.heap.size A A' xs ys) (hok : okPr xs ys) :
    Calls Try.prog 41 #[pgv A A' xs.length c ys.length c'] w fun e w' => e = .returned (.int .i64 (fstI (firstB xs.length (badN xs ys)))) ∧ Below w.heap.size w w' := by
  have hlen := okPr_len hok
  have h60 : xs.length ≤ 60 := hok.1
  have hy60 : ys.length ≤ 60 := by omega
  have HOK := Lib.hid hok
  have HXS := Lib.hid (fun k (h : k < xs.length) => args_at_len h)
  have HLEN := Lib.hid hlen
  clear hok hlen
  obtain ⟨W1, hW1⟩ : ∃ W, W = w.alloc (.cells #[.slice A xs.length c, .slice A' ys.length c'] 35) := ⟨_, rfl⟩
  have M := Mbox.new w #[.slice A xs.length c, .slice A' ys.length c'] 35
  have hB : Below w.heap.size w (w.alloc (.cells #[.slice A xs.length c, .slice A' ys.length c'] 35)) := by go_grown
  have hR1 := (hR.alloc (Nat.le_refl _) (.cells #[.slice A xs.length c, .slice A' ys.length c'] 35)).more (B' := (w.alloc (.cells #[.slice A xs.length c, .slice A' ys.length c'] 35)).heap.size) (by simp)
  rw [← hW1] at M hB hR1
  have HM := Lib.hid M
  have HB := Lib.hid hB
  have HR := Lib.hid hR1
  clear M hB hR hR1
  go_enter Try.func41, Try.ntmps41
  go_upto_region 1 with fail
  rw [← hW1]
  clear hW1
  obtain ⟨p0, hp0⟩ : ∃ p, p = w.heap.size := ⟨_, rfl⟩
  have hm := HM.out
  rw [← hp0] at hm ⊢
  clear hp0
  have HT : Held W1 W1 [(p0, [.slice A xs.length c, .slice A' ys.length c'])] := (Held.nil W1).cons hm
  have HC : ∀ W', Held W1 W' [(p0, [.slice A xs.length c, .slice A' ys.length c'])] → W'.cell? ⟨p0, 0, none⟩ = some (.slice A xs.length c) ∧ W'.cell? ⟨p0, 1, none⟩ = some (.slice A' ys.length c') := fun W' h => ⟨(h.box 0).c 0, (h.box 0).c 1⟩
  have HRW := Lib.hid (fun W (h : Below W1.heap.size W1 W) => HR.out.later h)
  have HNA := Lib.hid (fun W (h : ProgIn W W.heap.size A A' xs ys) => names_any A A' c c' xs ys W h (by omega))
  have HOA := Lib.hid (fun W (h : ProgIn W W.heap.size A A' xs ys) => owners_any A A' c c' xs ys W h HOK.out)
  clear hm
  go_cut [3, 4] (fun y z wx => ∃ A4 c4 A5, y = .slice A4 ys.length c4 ∧ z = .slice A5 xs.length xs.length ∧ Row Str wx wx.heap.size A4 (nmsL ys) ∧ ys.length ≤ c4 ∧ c4 ≤ maxLen ∧ Row I64 wx wx.heap.size A5 ((List.range xs.length).map (ownV xs ys)) ∧ Held W1 wx [(p0, [.slice A xs.length c, .slice A' ys.length c'])])
  case first =>
    go_region_held3 (fun W' => W'.cell? ⟨p0, 0, none⟩ = some (.slice A xs.length c) ∧ W'.cell? ⟨p0, 1, none⟩ = some (.slice A' ys.length c'))
      (first | (with_reducible exact HC _ HT) | (with_reducible exact HC _ HT.drew))
      ((first | (go_at_call 46; (with_reducible refine (HNA.out _ (by first | with_reducible exact HRW.out _ HT.below | with_reducible exact HRW.out _ HT.drew.below)).mono ?_); rintro e w7 ⟨A4, c4, rfl, R4, hc4, hm4, hb7⟩; (first | (have HT := HT.later hb7) | (have HT := HT.drew.later hb7)); (try (have R5 := R5.later hb7))) | (go_at_call 36; (with_reducible refine (HOA.out _ (by first | with_reducible exact HRW.out _ HT.below | with_reducible exact HRW.out _ HT.drew.below)).mono ?_); rintro e w7 ⟨A5, rfl, R5, hb7⟩; (first | (have HT := HT.later hb7) | (have HT := HT.drew.later hb7)); (try (have R4 := R4.later hb7)))))
    all_goals (go_wp2_with fail; go_meet)
    all_goals (first | exact ⟨A4, c4, A5, rfl, rfl, R4, hc4, hm4, R5, HT⟩ | exact ⟨A4, c4, A5, rfl, rfl, R4, hc4, hm4, R5, HT.drew⟩)
  case rest =>
    clear HC HT HNA HOA
    obtain ⟨A4, c4, A5, rfl, rfl, hr4, hc4, hm4, hr5, HT⟩ := hcut
    have m0 := (HT.box 0).c 0
    have m1 := (HT.box 0).c 1
    obtain ⟨w3, hw3⟩ : ∃ x, x = wc := ⟨_, rfl⟩
    rw [← hw3] at hr4 hr5 HT m0 m1 ⊢
    clear hw3
    have HB3 := Lib.hid (HB.out.trans (HT.below.mono HB.out.size))
    have HR3 := Lib.hid (HRW.out _ HT.below)
    have HR4 := Lib.hid hr4
    have HR5 := Lib.hid hr5
    clear hr4 hr5 HT HRW HR HB HM
    go_wp2_with fail
    go_loopw [14] (fun i wr => ∃ k : Nat, k ≤ xs.length ∧ i = .int .i64 k ∧ Below w3.heap.size w3 wr ∧ ∀ j, j < k → badN xs ys j = false) (fun i _ => xs.length - (intOf i).toNat)
    case atStart => exact ⟨0, Nat.zero_le _, rfl, Below.refl _ _, fun j h => by omega⟩
    case round =>
      clear m0 m1
      obtain ⟨k, hk, rfl, hb, hno⟩ := hrel
      have HNO := Lib.hid hno
      clear hno
      by_cases hlt : k < xs.length
      · obtain ⟨bb, o, rfl, hbl, a, ca, c0, c1, c2, c3, hca1, hca2, hrow⟩ := HR3.out.1.at hlt
        obtain ⟨b3, o3, rfl, hbl3, hz0⟩ := HR5.out.at (k := k) (by simp; omega)
        have hbd := ownV_bd HOK.out hlt
        obtain ⟨z, hzz⟩ : ∃ z : Nat, ownV xs ys k = (z : Int) := ⟨(ownV xs ys k).toNat, by omega⟩
        have hz : w3.cell? ⟨b3, o3 + k, none⟩ = some (.int .i64 z) := by rw [← hzz]; simpa using hz0
        clear hz0
        have c0 := (hb.cell (p := ⟨bb, o + k * 4, none⟩) hbl).trans c0
        have c1 := (hb.cell (p := ⟨bb, o + k * 4 + 1, none⟩) hbl).trans c1
        have c2 := (hb.cell (p := ⟨bb, o + k * 4 + 2, none⟩) hbl).trans c2
        have c3 := (hb.cell (p := ⟨bb, o + k * 4 + 3, none⟩) hbl).trans c3
        have hz := (hb.cell (p := ⟨b3, o3 + k, none⟩) hbl3).trans hz
        have hl3 := HXS.out _ hlt
        have hzl : z ≤ ys.length := by omega
        have HBN := Lib.hid (badN_kn xs ys k hzz hzl)
        obtain ⟨v, hv⟩ : ∃ v, v = xs[k] := ⟨_, rfl⟩
        have hV : ndA xs k = v := by unfold ndA; rw [getD_at hlt]; exact hv.symm
        rw [hV] at HBN
        rw [← hv] at c0 c1 c2 c3 hl3
        obtain ⟨v0, v1, v2, v3⟩ := v
        dsimp only at c0 c1 c2 c3 hl3 HBN
        have hlt' : (k : Int) < (xs.length : Int) := by omega
        have hge' : (0 : Int) ≤ (k : Int) := by omega
        have hz0' : (0 : Int) ≤ (z : Int) := by omega
        have hzc : (z : Int) ≤ (c4 : Int) := by omega
        have hv60 : v3.length ≤ 60 := by have := HLEN.out; omega
        have hZB : b3 < wr.heap.size := Nat.lt_of_lt_of_le hbl3 hb.size
        have hb2 : Below wr.heap.size wr (wr.alloc (.cells #[.int .i64 v0, .string v1, .int .i64 v2, .slice a v3.length ca] 56)) := by go_grown
        have hz := (hb2.cell (p := ⟨b3, o3 + k, none⟩) hZB).trans hz
        have hb := hb.trans (hb2.mono hb.size)
        have hZB2 := Nat.lt_of_lt_of_le hZB hb2.size
        clear hrow hv hca1 hca2 hbl hbl3 hZB hb2 hV hl3 hzz hbd
        go_upto_region 5 with fail
        obtain ⟨W2, hW2⟩ : ∃ W, W = wr.alloc (.cells #[.int .i64 v0, .string v1, .int .i64 v2, .slice a v3.length ca] 56) := ⟨_, rfl⟩
        obtain ⟨g, hg⟩ : ∃ g, g = wr.heap.size := ⟨_, rfl⟩
        have M2 := Mbox.new wr #[.int .i64 v0, .string v1, .int .i64 v2, .slice a v3.length ca] 56
        rw [← hW2] at M2 hz hb hZB2 ⊢
        rw [← hg] at M2 ⊢
        clear hW2 hg c0 c1 c2 c3
        have HT : Held W2 W2 [(g, [.int .i64 v0, .string v1, .int .i64 v2, .slice a v3.length ca])] := (Held.nil W2).cons M2
        have HC : ∀ W', Held W2 W' [(g, [.int .i64 v0, .string v1, .int .i64 v2, .slice a v3.length ca])] → W'.cell? ⟨g, 0, none⟩ = some (.int .i64 v0) ∧ W'.cell? ⟨g, 1, none⟩ = some (.string v1) ∧ W'.cell? ⟨g, 2, none⟩ = some (.int .i64 v2) ∧ W'.cell? ⟨g, 3, none⟩ = some (.slice a v3.length ca) ∧ W'.cell? ⟨b3, o3 + k, none⟩ = some (.int .i64 z) := fun W' h => ⟨(h.box 0).c 0, (h.box 0).c 1, (h.box 0).c 2, (h.box 0).c 3, (h.below.cell (p := ⟨b3, o3 + k, none⟩) hZB2).trans hz⟩
        have HEX := Lib.hid (fun W => expr_any v0 v1 v2 a v3.length ca W)
        have htl : ((nmsL ys).take z).length = z := by rw [List.length_take, nms_len]; omega
        have hkn := fun W (h : Below W2.heap.size W2 W) => known_any v0 v1 a v3.length ca A4 c4 ((nmsL ys).take z) W (((HR4.out.later hb).later h).take z) (by omega)
        simp only [htl] at hkn
        rw [nms_take] at HBN
        obtain ⟨X, hX⟩ : ∃ X, X = exV v0 v1 (.slice a v3.length ca) := ⟨_, rfl⟩
        obtain ⟨B1, hB1⟩ : ∃ B, B = knB v0 v1 ((nmsL ys).take z) := ⟨_, rfl⟩
        rw [← hX] at HEX hkn
        rw [← hB1] at hkn HBN
        have HKN := Lib.hid hkn
        have HBW := Lib.hid hb
        clear M2 hz hb hZB2 hkn hX hB1 htl
        go_cut [28] (fun y wx => y = .bool (!B1) ∧ Held W2 wx [(g, [.int .i64 v0, .string v1, .int .i64 v2, .slice a v3.length ca])])
        case first =>
          go_region_held3 (fun W' => W'.cell? ⟨g, 0, none⟩ = some (.int .i64 v0) ∧ W'.cell? ⟨g, 1, none⟩ = some (.string v1) ∧ W'.cell? ⟨g, 2, none⟩ = some (.int .i64 v2) ∧ W'.cell? ⟨g, 3, none⟩ = some (.slice a v3.length ca) ∧ W'.cell? ⟨b3, o3 + k, none⟩ = some (.int .i64 z))
            (first | (with_reducible exact HC _ HT) | (with_reducible exact HC _ HT.drew))
            ((first | (go_at_call 62; (with_reducible refine (HEX.out _).mono ?_); rintro e w7 ⟨rfl, hb7⟩; (first | (have HT := HT.later hb7) | (have HT := HT.drew.later hb7))) | (go_at_call 65; (with_reducible refine (HKN.out _ (by first | with_reducible exact HT.below | with_reducible exact HT.drew.below)).mono ?_); rintro e w7 ⟨rfl, hb7⟩; (first | (have HT := HT.later hb7) | (have HT := HT.drew.later hb7)))))
          all_goals (go_wp2_with fail; go_meet)
          all_goals (first | exact ⟨rfl, HT⟩ | exact ⟨rfl, HT.drew⟩)
        case rest =>
          clear HC HT HEX HKN
          obtain ⟨rfl, HT⟩ := hcut
          have HBX := Lib.hid (HBW.out.trans (HT.below.mono HBW.out.size))
          clear HT
          cases B1 with
          | false =>
            have HF : Hid (firstB xs.length (badN xs ys) = some k) := Lib.hid (first_some hlt HBN.out HNO.out)
            have HF2 := Lib.hid (HB3.out.trans (HBX.out.mono HB3.out.size))
            go_wp2_with fail
            go_ret
            exact ⟨by rw [HF.out]; rfl, HF2.out⟩
          | true =>
            have HN2 : Hid (∀ j, j < k + 1 → badN xs ys j = false) := Lib.hid (fun j hj => by
              by_cases e : j = k
              · rw [e, HBN.out]
                rfl
              · exact HNO.out j (by omega))
            go_wp2_with fail
            go_roundw
            case rel => exact ⟨k + 1, by omega, by go_num, HBX.out, HN2.out⟩
            case measure => simp [intOf]; omega
      · obtain rfl : k = xs.length := by omega
        have HF : Hid (firstB xs.length (badN xs ys) = none) := Lib.hid (first_none HNO.out)
        have HF2 := Lib.hid (HB3.out.trans (hb.mono HB3.out.size))
        have hge2 : ¬ ((xs.length : Nat) : Int) < ((xs.length : Nat) : Int) := by omega
        clear hb
        go_wp2_with fail
        go_ret
        exact ⟨by rw [HF.out]; rfl, HF2.out⟩

set_option maxRecDepth 100000 in
set_option maxHeartbeats 8000000 in
theorem check_any (A A' : Option Addr) (c c' : Nat) (xs : List Nd) (ys : List As) (w : World) (hR : ProgIn w w.heap.size A A' xs ys) (hl : xs.length ≤ 1048576) (hl2 : ys.length ≤ 1048576) (hz : ys.length + (argsL xs).length ≤ 1099511627776) (hx : ∀ x ∈ xs, x.2.1.size ≤ 1048576 ∧ x.2.2.2.length ≤ 1048576) (hy : ∀ y ∈ ys, y.1.size ≤ 1048576) :
    Calls Try.prog 22 #[pgv A A' xs.length c ys.length c'] w fun e w' => e = .returned (.tuple #[.int .i64 (chkP xs ys).1, .int .i64 (chkP xs ys).2]) ∧ Below w.heap.size w w' := by
  have HVC := Lib.hid (fun W (h : ProgIn W W.heap.size A A' xs ys) => isValidProg_any A A' c c' xs ys W h hl hl2 hz hx hy)
  have HXS := Lib.hid (fun x (h : x ∈ xs) => (hx x h).2)
  clear hz hx hy
  obtain ⟨W1, hW1⟩ : ∃ W, W = w.alloc (.cells #[.slice A xs.length c, .slice A' ys.length c'] 35) := ⟨_, rfl⟩
  have M := Mbox.new w #[.slice A xs.length c, .slice A' ys.length c'] 35
  have hB : Below w.heap.size w (w.alloc (.cells #[.slice A xs.length c, .slice A' ys.length c'] 35)) := by go_grown
  have hR1 := (hR.alloc (Nat.le_refl _) (.cells #[.slice A xs.length c, .slice A' ys.length c'] 35)).more (B' := (w.alloc (.cells #[.slice A xs.length c, .slice A' ys.length c'] 35)).heap.size) (by simp)
  rw [← hW1] at M hB hR1
  have HM := Lib.hid M
  have HB := Lib.hid hB
  have HR := Lib.hid hR1
  clear M hB hR hR1
  go_enter Try.func22, Try.ntmps22
  go_upto_region 1 with fail
  rw [← hW1]
  clear hW1
  have m0 := HM.out.c 0
  have m1 := HM.out.c 1
  go_wp2_with fail
  refine (HVC.out _ HR.out).mono ?_
  rintro e w2 hq
  obtain ⟨v, rfl, hv, hb2⟩ := hq
  have HM2 := Lib.hid (HM.out.later hb2)
  have HB2 := Lib.hid (HB.out.trans (hb2.mono HB.out.size))
  have HR2 := Lib.hid (HR.out.later hb2)
  clear m0 m1 HB HR HM
  cases v with
  | false =>
    have HC1 := Lib.hid (chk_bad (fun k => by have := hv.2 k; cases this))
    clear hv hb2
    go_wp2_with fail
    exact bodyPost_ret (v := .tuple #[.int .i64 1, .int .i64 0]) (by simp [results, Try.results22, go_sem]) rfl ⟨by rw [HC1.out], HB2.out⟩
  | true =>
    have hok : okPr xs ys := hv.1 rfl
    have h60 : xs.length ≤ 60 := hok.1
    have hy60 : ys.length ≤ 60 := by have := okPr_len hok; omega
    have HOK := Lib.hid hok
    have m0 := HM2.out.c 0
    have m1 := HM2.out.c 1
    have HNC := Lib.hid (unknown_any A A' c c' xs ys w2 HR2.out hok)
    clear hv hb2 hok
    cases hf : firstB xs.length (badN xs ys) with
    | some i =>
      have HC1 := Lib.hid (chk_n HOK.out hf)
      rw [hf] at HNC
      unfold fstI at HNC
      dsimp only at HNC
      have hi : ((i : Int) != -1) = true := by rw [bne_iff_ne]; omega
      clear hf
      go_wp2_with fail
      refine HNC.out.mono ?_
      rintro e w3 ⟨rfl, hb3⟩
      have HB3 := Lib.hid (HB2.out.trans (hb3.mono HB2.out.size))
      clear hb3 m0 m1
      go_wp2_with fail
      exact bodyPost_ret (v := .tuple #[.int .i64 2, .int .i64 i]) (by simp [results, Try.results22, go_sem]) rfl ⟨by rw [HC1.out], HB3.out⟩
    | none =>
      have HN1 := Lib.hid hf
      rw [hf] at HNC
      unfold fstI at HNC
      dsimp only at HNC
      clear hf
      go_wp2_with fail
      refine HNC.out.mono ?_
      rintro e w3 ⟨rfl, hb3⟩
      have HB3 := Lib.hid (HB2.out.trans (hb3.mono HB2.out.size))
      have HM3 := Lib.hid (HM2.out.later hb3)
      have HR3 := Lib.hid (HR2.out.later hb3)
      have HNC := Lib.hid (indexF_any A c xs w3 HR3.out.1 hl (fun x h => HXS.out x h))
      clear hb3 m0 m1
      have m0 := HM3.out.c 0
      have m1 := HM3.out.c 1
      cases hf : firstB xs.length (badR xs) with
      | some i =>
        have HC1 := Lib.hid (chk_r HOK.out HN1.out hf)
        rw [hf] at HNC
        unfold fstI at HNC
        dsimp only at HNC
        have hi : ((i : Int) != -1) = true := by rw [bne_iff_ne]; omega
        clear hf
        go_wp2_with fail
        refine HNC.out.mono ?_
        rintro e w4 ⟨rfl, hb4⟩
        have HB4 := Lib.hid (HB3.out.trans (hb4.mono HB3.out.size))
        clear hb4 m0 m1
        go_wp2_with fail
        exact bodyPost_ret (v := .tuple #[.int .i64 3, .int .i64 i]) (by simp [results, Try.results22, go_sem]) rfl ⟨by rw [HC1.out], HB4.out⟩
      | none =>
        have HN2 := Lib.hid hf
        rw [hf] at HNC
        unfold fstI at HNC
        dsimp only at HNC
        clear hf
        go_wp2_with fail
        refine HNC.out.mono ?_
        rintro e w4 ⟨rfl, hb4⟩
        have HB4 := Lib.hid (HB3.out.trans (hb4.mono HB3.out.size))
        have HM4 := Lib.hid (HM3.out.later hb4)
        have HR4 := Lib.hid (HR3.out.later hb4)
        have HNC := Lib.hid (notAsg_any A A' c c' xs ys w4 HR4.out hl2)
        clear hb4 m0 m1
        have m0 := HM4.out.c 0
        have m1 := HM4.out.c 1
        cases hf : firstB ys.length (badS ys) with
        | some i =>
          have HC1 := Lib.hid (chk_s HOK.out HN1.out HN2.out hf)
          rw [hf] at HNC
          unfold fstI at HNC
          dsimp only at HNC
          have hi : ((i : Int) != -1) = true := by rw [bne_iff_ne]; omega
          clear hf
          go_wp2_with fail
          refine HNC.out.mono ?_
          rintro e w5 ⟨rfl, hb5⟩
          have HB5 := Lib.hid (HB4.out.trans (hb5.mono HB4.out.size))
          clear hb5 m0 m1
          go_wp2_with fail
          exact bodyPost_ret (v := .tuple #[.int .i64 4, .int .i64 i]) (by simp [results, Try.results22, go_sem]) rfl ⟨by rw [HC1.out], HB5.out⟩
        | none =>
          have HN3 := Lib.hid hf
          rw [hf] at HNC
          unfold fstI at HNC
          dsimp only at HNC
          clear hf
          go_wp2_with fail
          refine HNC.out.mono ?_
          rintro e w5 ⟨rfl, hb5⟩
          have HB5 := Lib.hid (HB4.out.trans (hb5.mono HB4.out.size))
          have HM5 := Lib.hid (HM4.out.later hb5)
          have HR5 := Lib.hid (HR4.out.later hb5)
          clear hb5 m0 m1
          have m0 := HM5.out.c 0
          have m1 := HM5.out.c 1
          go_wp2_with fail
          refine (names_any A A' c c' xs ys w5 HR5.out hl2).mono ?_
          rintro e w6 ⟨A4, c4, rfl, hr4, hc4, hm4, hb6⟩
          have HB6 := Lib.hid (HB5.out.trans (hb6.mono HB5.out.size))
          have hct := contains_any A4 c4 w6.heap.size (nmsL ys) ⟨#[99, 111, 108, 111, 114]⟩ w6 hr4 (by rw [nms_len]; exact hl2)
          rw [nms_len] at hct
          have HQ : Hid (0 ≤ asgd ys ⟨#[99, 111, 108, 111, 114]⟩ ys.length ↔ inL (nmsL ys) ⟨#[99, 111, 108, 111, 114]⟩ = true) := Lib.hid (by
            have h1 := asgd_iff ys ⟨#[99, 111, 108, 111, 114]⟩ ys.length (Nat.le_refl _)
            rw [List.take_length] at h1
            exact h1)
          obtain ⟨q, hq⟩ : ∃ q, q = inL (nmsL ys) ⟨#[99, 111, 108, 111, 114]⟩ := ⟨_, rfl⟩
          rw [← hq] at hct HQ
          have HCT := Lib.hid hct
          clear hct hr4 hc4 hm4 hb6 m0 m1 hq
          go_wp2_with fail
          refine HCT.out.mono ?_
          rintro e w7 ⟨rfl, rfl⟩
          cases q with
          | false =>
            have HC1 := Lib.hid (chk_c HOK.out HN1.out HN2.out HN3.out (by have h1 := HQ.out; have h2 : ¬ (0 ≤ asgd ys ⟨#[99, 111, 108, 111, 114]⟩ ys.length) := fun h => by (have := h1.1 h; cases this)
                                                                           omega))
            go_wp2_with fail
            exact bodyPost_ret (v := .tuple #[.int .i64 5, .int .i64 0]) (by simp [results, Try.results22, go_sem]) rfl ⟨by rw [HC1.out], HB6.out⟩
          | true =>
            have HC1 := Lib.hid (chk_0 HOK.out HN1.out HN2.out HN3.out (by have h1 := HQ.out.2 rfl; omega))
            go_wp2_with fail
            exact bodyPost_ret (v := .tuple #[.int .i64 0, .int .i64 0]) (by simp [results, Try.results22, go_sem]) rfl ⟨by rw [HC1.out], HB6.out⟩
end Go.Proofs.Ytpcdlehicdepaaa
