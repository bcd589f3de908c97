/- Caches of the model: finding a tile, validity, new caches, tiles of texels. -/
import Derived.Test.YtaelhbbfddcabaaProg
import Derived.Test.YtaelhbbfddcabaaInts
import Derived.Test.YtaelhbbfddcabaaVbox
import Derived.Test.YtaelhbbfddcabaaHeld
import Derived.Test.YtaelhbbfddcabaaMem
import Derived.Test.YtaelhbbfddcabaaFlat
import Derived.Test.YtaelhbbfddcabaaRowC
import Derived.Test.YtaelhbbfddcabaaKS
import Derived.Test.YtaelhbbfddcabaaStrS
import Derived.Test.YtaelhbbfddcabaaIntS
import Derived.Test.YtaelhbbfddcabaaSS
import Derived.Test.YtaelhbbfddcabaaVi
import Derived.Test.YtaelhbbfddcabaaVa
import Derived.Test.YtaelhbbfddcabaaVb
import Derived.Test.YtaelhbbfddcabaaVc
import Derived.Test.YtaelhbbfddcabaaWa
import Derived.Test.YtaelhbbfddcabaaWb
import Derived.Test.YtaelhbbfddcabaaVd
import Derived.Test.YtaelhbbfddcabaaVe
import Derived.Test.YtaelhbbfddcabaaVf
import Derived.Test.YtaelhbbfddcabaaVh
import Derived.Test.YtaelhbbfddcabaaWc
import Derived.WalkKit
import Derived.WalkSpells
import Derived.WalkLawsBesides
import Derived.Lib.Hide
import Derived.Deep.RegionHeld3
import Derived.Deep.QuietTactic
import Derived.BigQuiet
import Derived.Handy
import Derived.Deep.DeepCutAuto
import Derived.OwnWalk
namespace Go.Proofs.Ytaelhbbfddcabaa
open Go.RowKit

theorem teq_iff {a b c x y z : Int} : teqB a b c x y z = true ↔ ((a, b, c) : V3) = (x, y, z) := by
  unfold teqB
  simp [Prod.ext_iff, and_assoc]
theorem Held.tailC {w W : World} {k : Nat} {vs : List Value} {bs : List (Nat × List Value)} (h : Held w W ((k, vs) :: bs)) : Held w W bs := h.tail

set_option maxRecDepth 100000 in
set_option maxHeartbeats 4000000 in
theorem sFind_any (A : Option Addr) (c : Nat) (ts : List V3) (x y z : Int) (w : World) (hR : RowC 3 vg w w.heap.size A ts) (hl : ts.length ≤ 1099511627776) :
    Calls Try.prog 59 #[.slice A ts.length c, tlv x y z] w fun e w' => e = .returned (.int .i64 (fndT ts (x, y, z))) ∧ Below w.heap.size w w' := by
  have HT : Held w (w.alloc (.cells #[.int .i64 x, .int .i64 y, .int .i64 z] 50)) [(w.heap.size, [.int .i64 x, .int .i64 y, .int .i64 z])] := by
    have h := (Held.nil w).new #[.int .i64 x, .int .i64 y, .int .i64 z] 50
    simpa only [World.size_alloc] using h
  obtain ⟨W1, hW1⟩ : ∃ W, W = w.alloc (.cells #[.int .i64 x, .int .i64 y, .int .i64 z] 50) := ⟨_, rfl⟩
  rw [← hW1] at HT
  have HR := Lib.hid hR
  clear hR
  go_enter Try.func59, Try.ntmps59
  go_upto_region 1 with fail
  rw [← hW1]
  obtain ⟨k0, hk0⟩ : ∃ k, k = w.heap.size := ⟨_, rfl⟩
  rw [← hk0] at HT ⊢
  have HI := Lib.hid HT
  clear hW1 hk0 HT
  go_wp2_with fail
  go_loopw [9] (fun iv wr => ∃ k : Nat, k ≤ ts.length ∧ iv = .int .i64 k ∧ Held w wr [(k0, [.int .i64 x, .int .i64 y, .int .i64 z])] ∧ ∀ j (h : j < ts.length), j < k → ts[j] ≠ (x, y, z)) (fun iv _ => ts.length - (intOf iv).toNat)
  case atStart => exact ⟨0, Nat.zero_le _, rfl, HI.out, fun j _ h => by omega⟩
  case round =>
    clear HI
    obtain ⟨k, hk, rfl, HT, hno⟩ := hrel
    have HNO := Lib.hid hno
    clear hno
    by_cases hlt : k < ts.length
    · obtain ⟨b, o, rfl, hbl, hc⟩ := HR.out.at hlt
      obtain ⟨c0, c1, c2⟩ := vg_at hc
      have c0 := (HT.below.cell (p := ⟨b, o + k * 3, none⟩) hbl).trans c0
      have c1 := (HT.below.cell (p := ⟨b, o + k * 3 + 1, none⟩) hbl).trans c1
      have c2 := (HT.below.cell (p := ⟨b, o + k * 3 + 2, none⟩) hbl).trans c2
      obtain ⟨v, hv⟩ : ∃ v, v = ts[k] := ⟨_, rfl⟩
      rw [← hv] at c0 c1 c2
      obtain ⟨v0, v1, v2⟩ := v
      dsimp only at c0 c1 c2
      have hlt' : (k : Int) < (ts.length : Int) := by omega
      have hge' : (0 : Int) ≤ (k : Int) := by omega
      have e1 := teq_in v0 v1 v2 x y z
      have e2 := teq_run v0 v1 v2 x y z
      obtain ⟨q, hq⟩ : ∃ q, q = teqB v0 v1 v2 x y z := ⟨_, rfl⟩
      rw [← hq] at e1 e2
      have HV := Lib.hid (And.intro hv hq)
      have HTN := HT.new #[.int .i64 v0, .int .i64 v1, .int .i64 v2] 50
      clear hc hv hq
      go_upto_region 4 with fail
      obtain ⟨W2, hW2⟩ : ∃ W, W = wr.alloc (.cells #[.int .i64 v0, .int .i64 v1, .int .i64 v2] 50) := ⟨_, rfl⟩
      obtain ⟨k2, hk2⟩ : ∃ k, k = wr.heap.size := ⟨_, rfl⟩
      rw [← hW2] at HTN ⊢
      rw [← hk2] at HTN ⊢
      have m0 := (HTN.box 0).c 0
      have m1 := (HTN.box 0).c 1
      have m2 := (HTN.box 0).c 2
      have n0 := (HTN.box 1).c 0
      have n1 := (HTN.box 1).c 1
      have n2 := (HTN.box 1).c 2
      have HTT := Lib.hid HTN.tail
      clear hW2 hk2 c0 c1 c2 HT HTN
      cases q with
      | true =>
        have HF : Hid (fndT ts (x, y, z) = (k : Int)) := Lib.hid (fndT_at hlt (by have h1 := teq_iff.1 HV.out.2.symm; rw [← HV.out.1, h1]) HNO.out)
        go_wp2_with fail
        go_ret
        exact ⟨by rw [HF.out]; rfl, HTT.out.below⟩
      | false =>
        have HN2 : Hid (∀ j (h : j < ts.length), j < k + 1 → ts[j] ≠ (x, y, z)) := Lib.hid (fun j h hj e => by
          by_cases e1 : j = k
          · subst e1
            rw [← HV.out.1] at e
            have := HV.out.2
            rw [teq_iff.2 e] at this
            cases this
          · exact HNO.out j h (by omega) e)
        go_wp2_with fail
        go_roundw
        case rel => exact ⟨k + 1, by omega, by go_num, HTT.out, HN2.out⟩
        case measure => simp [intOf]; omega
    · have HF : Hid (fndT ts (x, y, z) = -1) := Lib.hid (fndT_none fun j hj => HNO.out j hj (by omega))
      have HB := Lib.hid HT.below
      clear HT
      go_wp2_with fail
      go_ret
      exact ⟨by rw [HF.out]; rfl, HB.out⟩

set_option maxRecDepth 100000 in
set_option maxHeartbeats 8000000 in
theorem sIsValidC_any (R : Int) (A : Option Addr) (c : Nat) (ts : List V3) (K : Int) (w : World) (hR : RowC 3 vg w w.heap.size A ts) (hl : ts.length ≤ 1048577) :
    Calls Try.prog 23 #[cav R A ts.length c K] w fun e w' => e = .returned (.bool (okC R ts K)) ∧ Below w.heap.size w w' := by
  have HT : Held w (w.alloc (.cells #[.int .i64 R, .slice A ts.length c, .int .i64 K] 29)) [(w.heap.size, [.int .i64 R, .slice A ts.length c, .int .i64 K])] := by
    have h := (Held.nil w).new #[.int .i64 R, .slice A ts.length c, .int .i64 K] 29
    simpa only [World.size_alloc] using h
  obtain ⟨W1, hW1⟩ : ∃ W, W = w.alloc (.cells #[.int .i64 R, .slice A ts.length c, .int .i64 K] 29) := ⟨_, rfl⟩
  rw [← hW1] at HT
  have HR := Lib.hid hR
  clear hR
  go_enter Try.func23, Try.ntmps23
  go_upto_region 1 with fail
  rw [← hW1]
  obtain ⟨k0, hk0⟩ : ∃ k, k = w.heap.size := ⟨_, rfl⟩
  rw [← hk0] at HT ⊢
  have HI := Lib.hid HT
  have m1 := (HT.box 0).c 1
  clear hW1 hk0 HT
  go_wp2_with fail
  go_loopw [8] (fun iv wr => ∃ k : Nat, k ≤ ts.length ∧ iv = .int .i64 k ∧ Held w wr [(k0, [.int .i64 R, .slice A ts.length c, .int .i64 K])] ∧ ∀ j (h : j < ts.length), j < k → fndT ts ts[j] = (j : Int)) (fun iv _ => ts.length - (intOf iv).toNat)
  case atStart => exact ⟨0, Nat.zero_le _, rfl, HI.out, fun j _ h => by omega⟩
  case round =>
    clear HI m1
    obtain ⟨k, hk, rfl, HT, hno⟩ := hrel
    have HNO := Lib.hid hno
    clear hno
    by_cases hlt : k < ts.length
    · obtain ⟨b, o, hA, hbl, hc⟩ := HR.out.at hlt
      subst hA
      obtain ⟨c0, c1, c2⟩ := vg_at hc
      have c0 := (HT.below.cell (p := ⟨b, o + k * 3, none⟩) hbl).trans c0
      have c1 := (HT.below.cell (p := ⟨b, o + k * 3 + 1, none⟩) hbl).trans c1
      have c2 := (HT.below.cell (p := ⟨b, o + k * 3 + 2, none⟩) hbl).trans c2
      obtain ⟨v, hv⟩ : ∃ v, v = ts[k] := ⟨_, rfl⟩
      rw [← hv] at c0 c1 c2
      obtain ⟨v0, v1, v2⟩ := v
      dsimp only at c0 c1 c2
      have hlt' : (k : Int) < (ts.length : Int) := by omega
      have hge' : (0 : Int) ≤ (k : Int) := by omega
      have HV := Lib.hid hv
      have HTN := HT.new #[.int .i64 v0, .int .i64 v1, .int .i64 v2] 50
      clear hc hv
      go_upto_region 4 with fail
      obtain ⟨W2, hW2⟩ : ∃ W, W = wr.alloc (.cells #[.int .i64 v0, .int .i64 v1, .int .i64 v2] 50) := ⟨_, rfl⟩
      obtain ⟨k2, hk2⟩ : ∃ k, k = wr.heap.size := ⟨_, rfl⟩
      rw [← hW2] at HTN ⊢
      rw [← hk2] at HTN ⊢
      have m0 := (HTN.box 0).c 0
      have m1 := (HTN.box 0).c 1
      have m2 := (HTN.box 0).c 2
      have n1 := (HTN.box 1).c 1
      have HTT := Lib.hid HTN.tail
      have HF := Lib.hid (sFind_any _ c ts v0 v1 v2 W2 (HR.out.later HTN.below) (by omega))
      clear hW2 hk2 c0 c1 c2 HT HTN
      obtain ⟨r, hr⟩ : ∃ r, r = fndT ts (v0, v1, v2) := ⟨_, rfl⟩
      rw [← hr] at HF
      have HRR := Lib.hid hr
      go_wp2_with fail
      refine HF.out.mono ?_
      rintro e w3 ⟨rfl, hb3⟩
      have HT3 := Lib.hid (HTT.out.later hb3)
      clear hb3 m0 m1 m2 n1 hr
      by_cases hrk : r = (k : Int)
      · have hq : (r != (k : Int)) = false := by rw [hrk]; simp
        have HN2 : Hid (∀ j (h : j < ts.length), j < k + 1 → fndT ts ts[j] = (j : Int)) := Lib.hid (fun j h hj => by
          by_cases e1 : j = k
          · subst e1
            rw [← HV.out, ← HRR.out]
            exact hrk
          · exact HNO.out j h (by omega))
        clear hrk
        go_wp2_with fail
        go_roundw
        case rel => exact ⟨k + 1, by omega, by go_num, HT3.out, HN2.out⟩
        case measure => simp [intOf]; omega
      · have hq : (r != (k : Int)) = true := by rw [bne_iff_ne]; exact hrk
        have HP : Hid (okC R ts K = false) := Lib.hid (okC_no fun h => hrk (by
          have := nodup_find.1 h.2.2.2 k hlt
          rw [← HV.out] at this
          rw [HRR.out]
          exact this))
        clear hrk
        go_wp2_with fail
        go_ret
        exact ⟨by rw [HP.out]; rfl, HT3.out.below⟩
    · have hnd : ts.Nodup := nodup_find.2 fun j hj => HNO.out j hj (by omega)
      have HP : Hid (okC R ts K = (inV 1 12 R && (decide ((ts.length : Int) ≤ R) && inV (ts.length : Int) 1000000000 K))) := Lib.hid (by
        unfold okC okCa inV
        simp [hnd])
      have hnlt : ¬ (k : Int) < (ts.length : Int) := by omega
      have HI1 := Lib.hid (fun W => l01InV R 1 12 W)
      have HI2 := Lib.hid (fun W => l01InV K (ts.length : Int) 1000000000 W)
      obtain ⟨b1, hb1⟩ : ∃ b, b = inV 1 12 R := ⟨_, rfl⟩
      obtain ⟨b2, hb2⟩ : ∃ b, b = decide ((ts.length : Int) ≤ R) := ⟨_, rfl⟩
      obtain ⟨b3, hb3⟩ : ∃ b, b = inV (ts.length : Int) 1000000000 K := ⟨_, rfl⟩
      rw [← hb1] at HI1 HP
      rw [← hb3] at HI2 HP
      rw [← hb2] at HP
      have hb2' := hb2.symm
      have m0 := (HT.box 0).c 0
      have m1 := (HT.box 0).c 1
      have m2 := (HT.box 0).c 2
      have HB := Lib.hid HT.below
      clear hnd hb1 hb2 hb3 HT hlt hk
      go_wp2_with fail
      refine (HI1.out _).mono ?_
      rintro e w3 ⟨rfl, rfl⟩
      cases b1 with
      | false =>
        go_wp2_with fail
        go_ret
        exact ⟨by rw [HP.out]; rfl, HB.out⟩
      | true =>
        cases b2 with
        | false =>
          go_wp2_with fail
          go_ret
          exact ⟨by rw [HP.out]; rfl, HB.out⟩
        | true =>
          go_wp2_with fail
          refine (HI2.out _).mono ?_
          rintro e w4 ⟨rfl, rfl⟩
          go_wp2_with fail
          go_ret
          exact ⟨by rw [HP.out]; rfl, HB.out⟩

set_option maxHeartbeats 4000000 in
theorem sNewC_any (n : Int) (w : World) :
    Calls Try.prog 17 #[.int .i64 n] w (CaOut (clampP n 1 12) [] 0 w) := by
  have HT : Held w (w.alloc (.cells #[.int .i64 0, .slice none 0 0, .int .i64 0] 29)) [(w.heap.size, [.int .i64 0, .slice none 0 0, .int .i64 0])] := by
    have h := (Held.nil w).new #[.int .i64 0, .slice none 0 0, .int .i64 0] 29
    simpa only [World.size_alloc] using h
  obtain ⟨W1, hW1⟩ : ∃ W, W = w.alloc (.cells #[.int .i64 0, .slice none 0 0, .int .i64 0] 29) := ⟨_, rfl⟩
  rw [← hW1] at HT
  go_enter Try.func17, Try.ntmps17
  go_upto_region 1 with fail
  rw [← hW1]
  clear hW1
  have r0 := (HT.box 0).c 0
  have r1 := (HT.box 0).c 1
  have r2 := (HT.box 0).c 2
  have o0 := (HT.box 0).f 0
  have o1 := (HT.box 0).f 1
  have o2 := (HT.box 0).f 2
  have HB := Lib.hid HT.below
  clear HT
  go_wp2_with fail
  refine (sClamp_any n 1 12 _).mono ?_
  rintro e w2 ⟨rfl, rfl⟩
  obtain ⟨q, hq⟩ : ∃ q, q = clampP n 1 12 := ⟨_, rfl⟩
  rw [← hq]
  have HQ := Lib.hid hq
  clear hq
  go_wp2_with fail
  exact bodyPost_ret (v := cav q none 0 0 0) (by simp [results, Try.results17, go_sem, r0, r1, r2]) rfl ⟨none, 0, by rw [← HQ.out]; rfl, World.ownsRow_nil _ _ _ _, ((HB.out.setCell (p := ⟨w.heap.size, 0, none⟩) (Nat.le_refl _) _).setCell (p := ⟨w.heap.size, 1, none⟩) (Nat.le_refl _) _).setCell (p := ⟨w.heap.size, 2, none⟩) (Nat.le_refl _) _⟩

theorem smip_key (L : Int) (A : Option Addr) (c : Nat) (ts : List Int) (k : Int) (w : World) (hR : Row I64 w w.heap.size A ts) (hl : ts.length ≤ 1048576) :
    ∃ (Lm : Int) (M : List Int) (fl : Bool), (∀ W, Below w.heap.size w W → Calls Try.prog 63 #[txv L A ts.length c, .int .i64 k] W (TxOut Lm M fl W)) ∧ (fl = false → okM L ts k = false) ∧ (fl = true → okM L ts k = true ∧ Lm = L - k ∧ okTx Lm M) := by
  cases ho : okM L ts k with
  | false => exact ⟨0, [], false, fun W h => (sMip_no L A c ts k W (hR.later h) hl ho).mono fun _ _ h => h.out, fun _ => rfl, fun h => by cases h⟩
  | true =>
    have h1 := Bool.and_eq_true_iff.1 ho
    have hk := (inV_iff ..).1 h1.2
    refine ⟨L - k, mipL L ts k.toNat, true, fun W h => (sMip_yes L A c ts k W (hR.later h) hl ho).mono fun _ _ h => h.out, (fun h => by cases h), fun _ => ⟨rfl, rfl, ?_⟩⟩
    have h2 := mip_ok k.toNat L ts (okX_iff.1 h1.1) (by omega)
    rw [show ((k.toNat : Nat) : Int) = k by omega] at h2
    exact h2
set_option maxRecDepth 100000 in
set_option maxHeartbeats 8000000 in
theorem sTileOf_any (L : Int) (A : Option Addr) (c : Nat) (ts : List Int) (x y lv : Int) (w : World) (hR : Row I64 w w.heap.size A ts) (hl : ts.length ≤ 1048576) :
    Calls Try.prog 26 #[txv L A ts.length c, .int .i64 x, .int .i64 y, .int .i64 lv] w fun e w' => e = .returned (tlv (tileP L ts x y lv).1 (tileP L ts x y lv).2.1 (tileP L ts x y lv).2.2) ∧ Below w.heap.size w w' := by
  obtain ⟨Lm, M, fl, hmp, hno, hyes⟩ := smip_key L A c ts lv w hR hl
  have HT : Held w ((w.alloc (.cells #[.int .i64 L, .slice A ts.length c] 25)).alloc (.cells #[.int .i64 0, .int .i64 0, .int .i64 0] 50)) [(w.heap.size + 1, [.int .i64 0, .int .i64 0, .int .i64 0]), (w.heap.size, [.int .i64 L, .slice A ts.length c])] := by
    have h := ((Held.nil w).new #[.int .i64 L, .slice A ts.length c] 25).new #[.int .i64 0, .int .i64 0, .int .i64 0] 50
    simpa only [World.size_alloc] using h
  obtain ⟨W1, hW1⟩ : ∃ W, W = (w.alloc (.cells #[.int .i64 L, .slice A ts.length c] 25)).alloc (.cells #[.int .i64 0, .int .i64 0, .int .i64 0] 50) := ⟨_, rfl⟩
  rw [← hW1] at HT
  have hsz : W1.heap.size = w.heap.size + 2 := by rw [hW1]; simp
  have HMP := Lib.hid (hmp W1 HT.below)
  have HNO := Lib.hid hno
  have HYS := Lib.hid hyes
  obtain ⟨T, hT⟩ : ∃ T, T = tileP L ts x y lv := ⟨_, rfl⟩
  rw [← hT]
  have HTP := Lib.hid hT
  clear hR hmp hno hyes hT
  go_enter Try.func26, Try.ntmps26
  go_upto_region 1 with fail
  rw [← hW1]
  generalize g1 : w.heap.size + 1 = k1 at HT ⊢
  have HK := Lib.hid (show w.heap.size < k1 ∧ k1 < W1.heap.size by omega)
  generalize g0 : w.heap.size = k0 at HT ⊢
  have HK0 := Lib.hid g0
  have m0 := (HT.box 1).c 0
  have m1 := (HT.box 1).c 1
  have HTI := Lib.hid HT
  clear hW1 g0 g1 hsz HT
  go_wp2_with fail
  refine HMP.out.mono ?_
  rintro e w2 ⟨A2, c2, rfl, _, hb2⟩
  have hs2 := hb2.size
  have HT := (HTI.out.later hb2).new #[.int .i64 Lm, .slice A2 M.length c2] 25
  clear hb2 m0 m1
  go_upto_region 2 with fail
  obtain ⟨W2, hW2⟩ : ∃ W, W = w2.alloc (.cells #[.int .i64 Lm, .slice A2 M.length c2] 25) := ⟨_, rfl⟩
  obtain ⟨k2, hk2⟩ : ∃ k, k = w2.heap.size := ⟨_, rfl⟩
  rw [← hW2] at HT ⊢
  rw [← hk2] at HT hs2 ⊢
  have HORD := Lib.hid (show w.heap.size < k1 ∧ k1 < k2 by have := HK.out; omega)
  have n0 := (HT.box 0).c 0
  have r0 := (HT.box 1).c 0
  have r1 := (HT.box 1).c 1
  have r2 := (HT.box 1).c 2
  have o0 := (HT.box 1).f 0
  have o1 := (HT.box 1).f 1
  have o2 := (HT.box 1).f 2
  have HB := Lib.hid HT.below
  clear hW2 hk2 hs2 HT
  cases fl with
  | false =>
    have HTQ : Hid (T = (0, 0, 0)) := Lib.hid (by rw [HTP.out]; unfold tileP; rw [HNO.out rfl]; rfl)
    go_wp2_with fail
    have hq1 : w.heap.size ≤ k1 := by have := HORD.out; omega
    exact bodyPost_ret (v := tlv 0 0 0) (by simp [results, Try.results26, go_sem, r0, r1, r2]) rfl ⟨by rw [HTQ.out], ((HB.out.setCell (p := ⟨k1, 0, none⟩) hq1 _).setCell (p := ⟨k1, 1, none⟩) hq1 _).setCell (p := ⟨k1, 2, none⟩) hq1 _⟩
  | true =>
    obtain ⟨hok, hLm, hokM⟩ := HYS.out rfl
    have hbx := tmod_bd x (sd_pos (L := Lm))
    have hby := tmod_bd y (sd_pos (L := Lm))
    have hwx := wrp_lt x (sd_pos (L := Lm))
    have hwy := wrp_lt y (sd_pos (L := Lm))
    have ex := tmod_wrp x (sd_pos (L := Lm))
    have ey := tmod_wrp y (sd_pos (L := Lm))
    have hs16 := sd_le hokM.1
    have hs0 := sd_pos (L := Lm)
    have HS := Lib.hid (fun W => sSize_any Lm W hokM.1)
    have HTQ : Hid (T = (lv, ((wrp x (sd Lm) / 2 : Nat) : Int), ((wrp y (sd Lm) / 2 : Nat) : Int))) := Lib.hid (by rw [HTP.out]; unfold tileP; rw [if_pos hok, hLm])
    obtain ⟨s, hs⟩ : ∃ s, s = sd Lm := ⟨_, rfl⟩
    rw [← hs] at HS hbx hby hwx hwy ex ey hs16 hs0 HTQ
    obtain ⟨wx, hwx'⟩ : ∃ v, v = wrp x s := ⟨_, rfl⟩
    obtain ⟨wy, hwy'⟩ : ∃ v, v = wrp y s := ⟨_, rfl⟩
    rw [← hwx'] at hwx ex HTQ
    rw [← hwy'] at hwy ey HTQ
    obtain ⟨qx, hqx⟩ : ∃ q, q = wx / 2 := ⟨_, rfl⟩
    obtain ⟨qy, hqy⟩ : ∃ q, q = wy / 2 := ⟨_, rfl⟩
    rw [← hqx, ← hqy] at HTQ
    have d1 : (wx : Int).tdiv 2 = (qx : Int) := by rw [Int.tdiv_eq_ediv_of_nonneg (by omega)]; omega
    have d2 : (wy : Int).tdiv 2 = (qy : Int) := by rw [Int.tdiv_eq_ediv_of_nonneg (by omega)]; omega
    have e1 : IntKind.i64.wrap (x.tmod s) = x.tmod s := wrap_v (by omega)
    have e2 : IntKind.i64.wrap (x.tmod s + s) = x.tmod s + s := wrap_v (by omega)
    have e3 : IntKind.i64.wrap (wx : Int) = wx := wrap_v (by omega)
    have e4 : IntKind.i64.wrap (y.tmod s) = y.tmod s := wrap_v (by omega)
    have e5 : IntKind.i64.wrap (y.tmod s + s) = y.tmod s + s := wrap_v (by omega)
    have e6 : IntKind.i64.wrap (wy : Int) = wy := wrap_v (by omega)
    have e7 : IntKind.i64.wrap (qx : Int) = qx := wrap_v (by omega)
    have e8 : IntKind.i64.wrap (qy : Int) = qy := wrap_v (by omega)
    have hsn : ¬ (s : Int) = 0 := by omega
    have hsn2 : ¬ s = 0 := by omega
    clear hok hLm hokM hbx hby hwx hwy hs16 hs0 hs hwx' hwy' hqx hqy
    go_wp2_with fail
    refine (HS.out _).mono ?_
    rintro e w3 ⟨rfl, rfl⟩
    go_wp2_with fail
    have hq1 : w.heap.size ≤ k1 := by have := HORD.out; omega
    exact bodyPost_ret (v := tlv lv qx qy) (by simp [results, Try.results26, go_sem, r0, r1, r2]) rfl ⟨by rw [HTQ.out], ((HB.out.setCell (p := ⟨k1, 0, none⟩) hq1 _).setCell (p := ⟨k1, 1, none⟩) hq1 _).setCell (p := ⟨k1, 2, none⟩) hq1 _⟩
end Go.Proofs.Ytaelhbbfddcabaa
