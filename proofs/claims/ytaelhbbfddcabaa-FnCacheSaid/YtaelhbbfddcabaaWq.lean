/- The cache of the program, second part. -/
import Derived.Test.YtaelhbbfddcabaaProg
import Derived.Test.YtaelhbbfddcabaaInts
import Derived.Test.YtaelhbbfddcabaaVbox
import Derived.Test.YtaelhbbfddcabaaHeld
import Derived.Test.YtaelhbbfddcabaaMem
import Derived.Test.YtaelhbbfddcabaaFlat
import Derived.Test.YtaelhbbfddcabaaRowC
import Derived.Test.YtaelhbbfddcabaaKS
import Derived.Test.YtaelhbbfddcabaaStrS
import Derived.Test.YtaelhbbfddcabaaIntS
import Derived.Test.YtaelhbbfddcabaaSS
import Derived.Test.YtaelhbbfddcabaaVi
import Derived.Test.YtaelhbbfddcabaaVa
import Derived.Test.YtaelhbbfddcabaaVb
import Derived.Test.YtaelhbbfddcabaaVc
import Derived.Test.YtaelhbbfddcabaaVd
import Derived.Test.YtaelhbbfddcabaaVe
import Derived.Test.YtaelhbbfddcabaaVf
import Derived.Test.YtaelhbbfddcabaaVg
import Derived.Test.YtaelhbbfddcabaaVm
import Derived.Test.YtaelhbbfddcabaaVn
import Derived.Test.YtaelhbbfddcabaaVo
import Derived.Test.YtaelhbbfddcabaaVp
import Derived.Test.YtaelhbbfddcabaaVq
import Derived.Test.YtaelhbbfddcabaaWa
import Derived.Test.YtaelhbbfddcabaaWb
import Derived.Test.YtaelhbbfddcabaaWc
import Derived.Test.YtaelhbbfddcabaaWd
import Derived.Test.YtaelhbbfddcabaaWe
import Derived.Test.YtaelhbbfddcabaaWm
import Derived.Test.YtaelhbbfddcabaaWn
import Derived.WalkKit
import Derived.WalkSpells
import Derived.WalkLawsBesides
import Derived.Lib.Hide
import Derived.Deep.RegionHeld3
import Derived.Deep.QuietTactic
import Derived.BigQuiet
import Derived.Handy
import Derived.Deep.DeepCutAuto
import Derived.OwnWalk
import Derived.Lib.OwnBridge
import Derived.Maps.OwnSet
namespace Go.Proofs.Ytaelhbbfddcabaa
open Go.RowKit

set_option maxRecDepth 100000 in
set_option maxHeartbeats 4000000 in
theorem tileIn_any (L : Int) (A : Option Addr) (n c : Nat) (x y lv : Int) (w : World) (hL : 0 ≤ L ∧ L ≤ 4) (hx : -9223372036854775808 ≤ x ∧ x ≤ 9223372036854775807) (hy : -9223372036854775808 ≤ y ∧ y ≤ 9223372036854775807) :
    Calls Try.prog 66 #[txv L A n c, .int .i64 x, .int .i64 y, .int .i64 lv] w fun e w' => e = .returned (tlv lv ((wrp x (sd L) / 2 : Nat) : Int) ((wrp y (sd L) / 2 : Nat) : Int)) ∧ Below w.heap.size w w' := by
  have HT : Held w ((w.alloc (.cells #[.int .i64 L, .slice A n c] 25)).alloc (.cells #[.int .i64 0, .int .i64 0, .int .i64 0] 50)) [(w.heap.size + 1, [.int .i64 0, .int .i64 0, .int .i64 0]), (w.heap.size, [.int .i64 L, .slice A n c])] := by
    have h := ((Held.nil w).new #[.int .i64 L, .slice A n c] 25).new #[.int .i64 0, .int .i64 0, .int .i64 0] 50
    simpa only [World.size_alloc] using h
  obtain ⟨W1, hW1⟩ : ∃ W, W = (w.alloc (.cells #[.int .i64 L, .slice A n c] 25)).alloc (.cells #[.int .i64 0, .int .i64 0, .int .i64 0] 50) := ⟨_, rfl⟩
  rw [← hW1] at HT
  have hsz : W1.heap.size = w.heap.size + 2 := by rw [hW1]; simp
  have HS := Lib.hid (sideOf_any L A n c W1 hL)
  have HFX := Lib.hid (fun W => fmodT_any hL x W hx.1 hx.2)
  have HFY := Lib.hid (fun W => fmodT_any hL y W hy.1 hy.2)
  have hs16 := sd_le hL
  have hwx := wrp_lt x (sd_pos (L := L))
  have hwy := wrp_lt y (sd_pos (L := L))
  obtain ⟨s, hs⟩ : ∃ s, s = sd L := ⟨_, rfl⟩
  rw [← hs] at HS HFX HFY hs16 hwx hwy ⊢
  obtain ⟨wx, hwx'⟩ : ∃ v, v = wrp x s := ⟨_, rfl⟩
  obtain ⟨wy, hwy'⟩ : ∃ v, v = wrp y s := ⟨_, rfl⟩
  rw [← hwx'] at hwx HFX ⊢
  rw [← hwy'] at hwy HFY ⊢
  obtain ⟨qx, hqx⟩ : ∃ q, q = wx / 2 := ⟨_, rfl⟩
  obtain ⟨qy, hqy⟩ : ∃ q, q = wy / 2 := ⟨_, rfl⟩
  rw [← hqx, ← hqy]
  have d1 : (wx : Int).tdiv 2 = (qx : Int) := by rw [Int.tdiv_eq_ediv_of_nonneg (by omega)]; omega
  have d2 : (wy : Int).tdiv 2 = (qy : Int) := by rw [Int.tdiv_eq_ediv_of_nonneg (by omega)]; omega
  have e7 : IntKind.i64.wrap (qx : Int) = qx := wrap_v (by omega)
  have e8 : IntKind.i64.wrap (qy : Int) = qy := wrap_v (by omega)
  clear hs hwx' hwy' hqx hqy hwx hwy hs16 hx hy hL
  go_enter Try.func66, Try.ntmps66
  go_upto_region 1 with fail
  rw [← hW1]
  obtain ⟨k1, hk1⟩ : ∃ k, k = w.heap.size + 1 := ⟨_, rfl⟩
  obtain ⟨k0, hk0⟩ : ∃ k, k = w.heap.size := ⟨_, rfl⟩
  rw [← hk1, ← hk0] at HT
  rw [← hk1, ← hk0]
  have HORD := Lib.hid (show w.heap.size ≤ k1 by omega)
  have m0 := (HT.box 1).c 0
  have m1 := (HT.box 1).c 1
  have HTH := Lib.hid HT
  clear hW1 hk1 hk0 hsz HT
  go_wp2_with fail
  refine HS.out.mono ?_
  rintro e w2 ⟨rfl, hb2⟩
  have HT := HTH.out.later hb2
  clear hb2 m0 m1
  have r0 := (HT.box 0).c 0
  have r1 := (HT.box 0).c 1
  have r2 := (HT.box 0).c 2
  have o0 := (HT.box 0).f 0
  have o1 := (HT.box 0).f 1
  have o2 := (HT.box 0).f 2
  have HB := Lib.hid HT.below
  clear HT
  go_wp2_with fail
  refine (HFX.out _).mono ?_
  rintro e w3 ⟨rfl, rfl⟩
  go_wp2_with fail
  refine (HFY.out _).mono ?_
  rintro e w3 ⟨rfl, rfl⟩
  go_wp2_with fail
  have hq1 := HORD.out
  exact bodyPost_ret (v := tlv lv qx qy) (by simp [results, Try.results66, go_sem, r0, r1, r2]) rfl ⟨rfl, ((HB.out.setCell (p := ⟨k1, 0, none⟩) hq1 _).setCell (p := ⟨k1, 1, none⟩) hq1 _).setCell (p := ⟨k1, 2, none⟩) hq1 _⟩

theorem mip_key (L : Int) (A : Option Addr) (c : Nat) (ts : List Int) (k : Int) (w : World) (hR : Row I64 w w.heap.size A ts) (hl : ts.length ≤ 1048576) (hc : ts.length ≤ c) :
    ∃ (Lm : Int) (M : List Int) (fl : Bool), (∀ W, Below w.heap.size w W → Calls Try.prog 50 #[txv L A ts.length c, .int .i64 k] W (TxOut Lm M fl W)) ∧ (fl = false → okM L ts k = false) ∧ (fl = true → okM L ts k = true ∧ Lm = L - k ∧ 0 ≤ Lm ∧ Lm ≤ 4) := by
  cases hk : okM L ts k with
  | false => exact ⟨0, [], false, fun W h => mip_out0 L A c ts k W (hR.later h) hl hk, fun _ => rfl, (fun e => by cases e)⟩
  | true =>
    refine ⟨L - k, mipL L ts k.toNat, true, fun W h => mip_out L A c ts k W (hR.later h) hl hc hk, (fun e => by cases e), fun _ => ⟨rfl, rfl, ?_⟩⟩
    unfold okM at hk
    simp only [Bool.and_eq_true, okX, decide_eq_true_eq, inV] at hk
    have h1 := hk.1.1
    have h2 := hk.2
    constructor <;> omega
set_option maxRecDepth 100000 in
set_option maxHeartbeats 4000000 in
theorem tileOf_any (L : Int) (A : Option Addr) (c : Nat) (ts : List Int) (x y lv : Int) (w : World) (hR : Row I64 w w.heap.size A ts) (hl : ts.length ≤ 1048576) (hc : ts.length ≤ c) (hx0 : -9223372036854775808 ≤ x) (hx1 : x ≤ 9223372036854775807) (hy0 : -9223372036854775808 ≤ y) (hy1 : y ≤ 9223372036854775807) :
    Calls Try.prog 28 #[txv L A ts.length c, .int .i64 x, .int .i64 y, .int .i64 lv] w fun e w' => e = .returned (tlv (tileP L ts x y lv).1 (tileP L ts x y lv).2.1 (tileP L ts x y lv).2.2) ∧ Below w.heap.size w w' := by
  obtain ⟨Lm, M, fl, hmp, hno, hyes⟩ := mip_key L A c ts lv w hR hl hc
  have HT : Held w ((w.alloc (.cells #[.int .i64 L, .slice A ts.length c] 25)).alloc (.cells #[.int .i64 0, .int .i64 0, .int .i64 0] 50)) [(w.heap.size + 1, [.int .i64 0, .int .i64 0, .int .i64 0]), (w.heap.size, [.int .i64 L, .slice A ts.length c])] := by
    have h := ((Held.nil w).new #[.int .i64 L, .slice A ts.length c] 25).new #[.int .i64 0, .int .i64 0, .int .i64 0] 50
    simpa only [World.size_alloc] using h
  obtain ⟨W1, hW1⟩ : ∃ W, W = (w.alloc (.cells #[.int .i64 L, .slice A ts.length c] 25)).alloc (.cells #[.int .i64 0, .int .i64 0, .int .i64 0] 50) := ⟨_, rfl⟩
  rw [← hW1] at HT
  have hsz : W1.heap.size = w.heap.size + 2 := by rw [hW1]; simp
  have HMP := Lib.hid (hmp W1 HT.below)
  have HNO := Lib.hid hno
  have HYS := Lib.hid hyes
  have HXY := Lib.hid (And.intro (And.intro hx0 hx1) (And.intro hy0 hy1))
  obtain ⟨T, hT⟩ : ∃ T, T = tileP L ts x y lv := ⟨_, rfl⟩
  rw [← hT]
  have HTP := Lib.hid hT
  clear hR hmp hno hyes hT hx0 hx1 hy0 hy1
  go_enter Try.func28, Try.ntmps28
  go_upto_region 1 with fail
  rw [← hW1]
  generalize g1 : w.heap.size + 1 = k1 at HT ⊢
  have HK := Lib.hid (show w.heap.size < k1 ∧ k1 < W1.heap.size by omega)
  generalize g0 : w.heap.size = k0 at HT ⊢
  have HK0 := Lib.hid g0
  have m0 := (HT.box 1).c 0
  have m1 := (HT.box 1).c 1
  have HTI := Lib.hid HT
  clear hW1 g0 g1 hsz HT
  go_wp2_with fail
  refine HMP.out.mono ?_
  rintro e w2 ⟨A2, c2, rfl, _, hb2⟩
  have hs2 := hb2.size
  have HT := (HTI.out.later hb2).new #[.int .i64 Lm, .slice A2 M.length c2] 25
  clear hb2 m0 m1
  go_upto_region 2 with fail
  obtain ⟨W2, hW2⟩ : ∃ W, W = w2.alloc (.cells #[.int .i64 Lm, .slice A2 M.length c2] 25) := ⟨_, rfl⟩
  obtain ⟨k2, hk2⟩ : ∃ k, k = w2.heap.size := ⟨_, rfl⟩
  rw [← hW2] at HT ⊢
  rw [← hk2] at HT hs2 ⊢
  have HORD := Lib.hid (show w.heap.size < k1 ∧ k1 < k2 by have := HK.out; omega)
  have n0 := (HT.box 0).c 0
  have n1 := (HT.box 0).c 1
  have r0 := (HT.box 1).c 0
  have r1 := (HT.box 1).c 1
  have r2 := (HT.box 1).c 2
  have o0 := (HT.box 1).f 0
  have o1 := (HT.box 1).f 1
  have o2 := (HT.box 1).f 2
  have HB := Lib.hid HT
  clear hW2 hk2 hs2 HT
  cases fl with
  | false =>
    have HTQ : Hid (T = (0, 0, 0)) := Lib.hid (by rw [HTP.out]; unfold tileP; rw [HNO.out rfl]; rfl)
    go_wp2_with fail
    have hq1 : w.heap.size ≤ k1 := by have := HORD.out; omega
    exact bodyPost_ret (v := tlv 0 0 0) (by simp [results, Try.results28, go_sem, r0, r1, r2]) rfl ⟨by rw [HTQ.out], ((HB.out.below.setCell (p := ⟨k1, 0, none⟩) hq1 _).setCell (p := ⟨k1, 1, none⟩) hq1 _).setCell (p := ⟨k1, 2, none⟩) hq1 _⟩
  | true =>
    obtain ⟨hok, hLm, hokM⟩ := HYS.out rfl
    have HTN := Lib.hid (tileIn_any Lm A2 M.length c2 x y lv W2 hokM HXY.out.1 HXY.out.2)
    have HTQ : Hid (T = (lv, ((wrp x (sd Lm) / 2 : Nat) : Int), ((wrp y (sd Lm) / 2 : Nat) : Int))) := Lib.hid (by rw [HTP.out]; unfold tileP; rw [if_pos hok, hLm])
    obtain ⟨qx, hqx⟩ : ∃ q, q = wrp x (sd Lm) / 2 := ⟨_, rfl⟩
    obtain ⟨qy, hqy⟩ : ∃ q, q = wrp y (sd Lm) / 2 := ⟨_, rfl⟩
    rw [← hqx, ← hqy] at HTQ HTN
    clear hok hLm hokM hqx hqy
    go_wp2_with fail
    refine HTN.out.mono ?_
    rintro e w3 ⟨rfl, hb3⟩
    have HT := HB.out.later hb3
    clear hb3 n0 n1 r0 r1 r2 o0 o1 o2
    have r0 := (HT.box 1).c 0
    have r1 := (HT.box 1).c 1
    have r2 := (HT.box 1).c 2
    have o0 := (HT.box 1).f 0
    have o1 := (HT.box 1).f 1
    have o2 := (HT.box 1).f 2
    have HB2 := Lib.hid HT.below
    clear HT
    go_wp2_with fail
    have hq1 : w.heap.size ≤ k1 := by have := HORD.out; omega
    exact bodyPost_ret (v := tlv lv qx qy) (by simp [results, Try.results28, go_sem, r0, r1, r2]) rfl ⟨by rw [HTQ.out], ((HB2.out.setCell (p := ⟨k1, 0, none⟩) hq1 _).setCell (p := ⟨k1, 1, none⟩) hq1 _).setCell (p := ⟨k1, 2, none⟩) hq1 _⟩

set_option maxRecDepth 100000 in
set_option maxHeartbeats 8000000 in
theorem isValidC_any (R : Int) (A : Option Addr) (c : Nat) (ts : List V3) (K : Int) (w : World) (hR : RowC 3 vg w w.heap.size A ts) (hw : ∀ e ∈ ts, wf3 e) (hl : ts.length ≤ 1048577) :
    Calls Try.prog 16 #[cav R A ts.length c K] w fun e w' => e = .returned (.bool (okC R ts K)) ∧ Below w.heap.size w w' := by
  have HT : Held w (w.alloc (.cells #[.int .i64 R, .slice A ts.length c, .int .i64 K] 29)) [(w.heap.size, [.int .i64 R, .slice A ts.length c, .int .i64 K])] := by
    have h := (Held.nil w).new #[.int .i64 R, .slice A ts.length c, .int .i64 K] 29
    simpa only [World.size_alloc] using h
  obtain ⟨W1, hW1⟩ : ∃ W, W = w.alloc (.cells #[.int .i64 R, .slice A ts.length c, .int .i64 K] 29) := ⟨_, rfl⟩
  rw [← hW1] at HT
  have HTO := Lib.hid (fun W (h : Below w.heap.size w W) => timesOf_any A c ts W (hR.later h) hw hl)
  have hmn := tmN_ok ts
  obtain ⟨lx, hlx⟩ : ∃ n, n = ts.length := ⟨_, rfl⟩
  obtain ⟨mN, hmN⟩ : ∃ n, n = tmN ts lx := ⟨_, rfl⟩
  rw [← hlx, ← hmN] at hmn
  rw [← hlx] at HT HTO hW1 ⊢
  have hlb : lx ≤ 1048577 := by omega
  have HMN := Lib.hid (And.intro hmN hmn)
  have HLX := Lib.hid hlx
  rw [← hmN] at HTO
  clear hR hw hl hmN hmn hlx
  have HIW := Lib.hid (fun W => isWithinV R 1 12 W)
  cases hr : inV 1 12 R with
  | false =>
    have HF : Hid (okC R ts K = false) := Lib.hid (okC_no fun h => by
      have h1 := h.1
      simp only [inV, Bool.and_eq_false_iff, decide_eq_false_iff_not] at hr
      omega)
    rw [hr] at HIW
    clear hr
    go_enter Try.func16, Try.ntmps16
    go_upto_region 1 with fail
    rw [← hW1]
    obtain ⟨k0, hk0⟩ : ∃ k, k = w.heap.size := ⟨_, rfl⟩
    rw [← hk0] at HT ⊢
    have m0 := (HT.box 0).c 0
    have m1 := (HT.box 0).c 1
    have m2 := (HT.box 0).c 2
    clear hW1 hk0
    go_wp2_with fail
    refine (HIW.out _).mono ?_
    rintro e w2 ⟨rfl, rfl⟩
    have HB := Lib.hid HT.below
    clear HT
    go_wp2_with fail
    go_ret
    exact ⟨by rw [HF.out]; rfl, HB.out⟩
  | true =>
    have HR12 : Hid (1 ≤ R ∧ R ≤ 12) := Lib.hid (by simpa [inV] using hr)
    rw [hr] at HIW
    clear hr
    by_cases hgt : R < (lx : Int)
    · have HF : Hid (okC R ts K = false) := Lib.hid (okC_no fun h => by
        have h1 := h.2.1
        rw [← HLX.out] at h1
        omega)
      go_enter Try.func16, Try.ntmps16
      go_upto_region 1 with fail
      rw [← hW1]
      obtain ⟨k0, hk0⟩ : ∃ k, k = w.heap.size := ⟨_, rfl⟩
      rw [← hk0] at HT ⊢
      have m0 := (HT.box 0).c 0
      have m1 := (HT.box 0).c 1
      have m2 := (HT.box 0).c 2
      clear hW1 hk0
      go_wp2_with fail
      refine (HIW.out _).mono ?_
      rintro e w2 ⟨rfl, rfl⟩
      have HB := Lib.hid HT.below
      clear HT
      go_wp2_with fail
      go_ret
      exact ⟨by rw [HF.out]; rfl, HB.out⟩
    · have HG := Lib.hid hgt
      go_enter Try.func16, Try.ntmps16
      go_upto_region 1 with fail
      rw [← hW1]
      obtain ⟨k0, hk0⟩ : ∃ k, k = w.heap.size := ⟨_, rfl⟩
      rw [← hk0] at HT ⊢
      have m0 := (HT.box 0).c 0
      have m1 := (HT.box 0).c 1
      have m2 := (HT.box 0).c 2
      clear hW1 hk0
      go_wp2_with fail
      refine (HIW.out _).mono ?_
      rintro e w2 ⟨rfl, rfl⟩
      go_upto_region 3 with fail
      clear hgt m0 m1 m2
      have HQ := HT.drew
      have HC : ∀ W', Held w W' [(k0, [.int .i64 R, .slice A lx c, .int .i64 K])] → (W'.cell? ⟨k0, 0, none⟩ = some (.int .i64 R) ∧ W'.cell? ⟨k0, 1, none⟩ = some (.slice A lx c) ∧ W'.cell? ⟨k0, 2, none⟩ = some (.int .i64 K)) := fun W' h => ⟨(h.box 0).c 0, (h.box 0).c 1, (h.box 0).c 2⟩
      clear HT
      go_cut [3] (fun y wx => y = .bool ((mN : Int) == (lx : Int)) ∧ Held w wx [(k0, [.int .i64 R, .slice A lx c, .int .i64 K])])
      case first =>
        refine wp_region_held_drew (S := fun W' => W'.cell? ⟨k0, 0, none⟩ = some (.int .i64 R) ∧ W'.cell? ⟨k0, 1, none⟩ = some (.slice A lx c) ∧ W'.cell? ⟨k0, 2, none⟩ = some (.int .i64 K)) (by kernel_rfl) (HC _ HQ) (fun hHeld => ?_)
        refine wpAnyH_take (i := 0) (oi := { dst := some 16, op := Op.fieldAddr 29 (Operand.tmp 1) 1, type := 0, pos := "l16_cache.go:53", after := #[], guard := none }) (v := ?_) rfl (by kernel_rfl) (by kernel_rfl) (by kernel_rfl) (fun _ _ _ h => h) (Or.inl ⟨by rfl, ?_⟩) (by assumption) ?_
        rotate_left 1
        · (intro w hSw; (try dsimp only at hSw); go_simp <;> with_reducible rfl)
        (try simp only [Act.put, List.setIfInBounds_toArray, List.set_cons_zero, List.set_cons_succ])
        refine wpAnyH_take (i := 1) (oi := { dst := some 17, op := Op.load 27 (Operand.tmp 16), type := 27, pos := "l16_cache.go:53", after := #[{ on := 0, ground := Ground.data }], guard := none }) (v := ?_) rfl (by kernel_rfl) (by kernel_rfl) (by kernel_rfl) (fun _ _ _ h => h) (Or.inl ⟨by rfl, ?_⟩) (by assumption) ?_
        rotate_left 1
        · (intro w hSw; (try dsimp only at hSw); go_simp <;> with_reducible rfl)
        (try simp only [Act.put, List.setIfInBounds_toArray, List.set_cons_zero, List.set_cons_succ])
        refine wpAnyH_take (i := 4) (oi := { dst := some 20, op := Op.fieldAddr 29 (Operand.tmp 1) 1, type := 0, pos := "l16_cache.go:53", after := #[], guard := none }) (v := ?_) rfl (by kernel_rfl) (by kernel_rfl) (by kernel_rfl) (fun _ _ _ h => h) (Or.inl ⟨by rfl, ?_⟩) (by assumption) ?_
        rotate_left 1
        · (intro w hSw; (try dsimp only at hSw); go_simp <;> with_reducible rfl)
        (try simp only [Act.put, List.setIfInBounds_toArray, List.set_cons_zero, List.set_cons_succ])
        refine wpAnyH_take (i := 5) (oi := { dst := some 21, op := Op.load 27 (Operand.tmp 20), type := 27, pos := "l16_cache.go:53", after := #[{ on := 4, ground := Ground.data }], guard := none }) (v := ?_) rfl (by kernel_rfl) (by kernel_rfl) (by kernel_rfl) (fun _ _ _ h => h) (Or.inl ⟨by rfl, ?_⟩) (by assumption) ?_
        rotate_left 1
        · (intro w hSw; (try dsimp only at hSw); go_simp <;> with_reducible rfl)
        (try simp only [Act.put, List.setIfInBounds_toArray, List.set_cons_zero, List.set_cons_succ])
        refine wpAnyH_take (i := 6) (oi := { dst := some 22, op := Op.call { callee := Callee.builtin Builtin.len, args := #[Operand.tmp 21], argTypes := #[27] }, type := 3, pos := "l16_cache.go:53", after := #[{ on := 5, ground := Ground.data }], guard := none }) (v := ?_) rfl (by kernel_rfl) (by kernel_rfl) (by kernel_rfl) (fun _ _ _ h => h) (Or.inl ⟨by rfl, ?_⟩) (by assumption) ?_
        rotate_left 1
        · (intro w hSw; (try dsimp only at hSw); go_simp <;> with_reducible rfl)
        (try simp only [Act.put, List.setIfInBounds_toArray, List.set_cons_zero, List.set_cons_succ])
        refine wpAnyH_ready (rs := [2]) (by kernel_rfl) (by simp) ?_
        refine AllReadyH.cons (o := { dst := some 18, op := Op.call { callee := Callee.value (Operand.func 56), args := #[Operand.tmp 17], argTypes := #[27] }, type := 82, pos := "l16_cache.go:53", after := #[{ on := 1, ground := Ground.data }], guard := none }) rfl (fun K hK => ?_) ?_
        · go_simp
          (with_reducible refine (HTO.out _ (by first | with_reducible exact HQ.below)).mono ?_)
          rintro e w7 ⟨b7, rfl, _, hT7, hb7⟩
          have HQ := HQ.later hb7
          have hlen := fun ty => hT7.len ty
          clear hb7 hT7
          (try go_wp2_with fail)
          refine hK.out _ _ (by (try dsimp only); exact HC _ HQ) (fun hHeld => ?_)
          clear hK K
          (try simp only [Act.put, List.setIfInBounds_toArray, List.set_cons_zero, List.set_cons_succ])
          refine wpAnyH_ready (rs := [3]) (by kernel_rfl) (by simp) ?_
          refine AllReadyH.cons (o := { dst := some 19, op := Op.call { callee := Callee.builtin Builtin.len, args := #[Operand.tmp 18], argTypes := #[82] }, type := 3, pos := "l16_cache.go:53", after := #[{ on := 2, ground := Ground.data }, { on := 2, ground := Ground.chain }], guard := none }) rfl (fun K hK => ?_) ?_
          · go_simp
            refine hK.out _ _ (by (try dsimp only); exact HC _ HQ) (fun hHeld => ?_)
            clear hK K
            (try simp only [Act.put, List.setIfInBounds_toArray, List.set_cons_zero, List.set_cons_succ])
            refine wpAnyH_take (i := 7) (oi := { dst := some 23, op := Op.binOp BinOp.eql 3 (Operand.tmp 19) (Operand.tmp 22) 3, type := 4, pos := "l16_cache.go:53", after := #[{ on := 3, ground := Ground.data }, { on := 6, ground := Ground.data }], guard := none }) (v := ?_) rfl (by kernel_rfl) (by kernel_rfl) (by kernel_rfl) (fun _ _ _ h => h) (Or.inl ⟨by rfl, ?_⟩) (by assumption) ?_
            rotate_left 1
            · (intro w hSw; (try dsimp only at hSw); go_simp <;> with_reducible rfl)
            (try simp only [Act.put, List.setIfInBounds_toArray, List.set_cons_zero, List.set_cons_succ])
            refine wpAnyH_take (i := 8) (oi := { dst := some 3, op := Op.assign (Operand.tmp 23), type := 4, pos := "l16_cache.go:53", after := #[{ on := 7, ground := Ground.data }, { on := 3, ground := Ground.chain }, { on := 0, ground := Ground.phase }, { on := 1, ground := Ground.phase }, { on := 2, ground := Ground.phase }, { on := 3, ground := Ground.phase }, { on := 4, ground := Ground.phase }, { on := 5, ground := Ground.phase }, { on := 6, ground := Ground.phase }, { on := 7, ground := Ground.phase }], guard := none }) (v := ?_) rfl (by kernel_rfl) (by kernel_rfl) (by kernel_rfl) (fun _ _ _ h => h) (Or.inl ⟨by rfl, ?_⟩) (by assumption) ?_
            rotate_left 1
            · (intro w hSw; (try dsimp only at hSw); go_simp <;> with_reducible rfl)
            (try simp only [Act.put, List.setIfInBounds_toArray, List.set_cons_zero, List.set_cons_succ])
            refine wpAnyH_done (by kernel_rfl) ?_ _
            clear hHeld
            go_wp2
            go_meet
            exact ⟨rfl, HQ⟩
          exact AllReadyH.nil
        exact AllReadyH.nil
      case rest =>
        obtain ⟨hy, HT⟩ := hcut
        clear HQ HC
        have m1 := (HT.box 0).c 1
        have m2 := (HT.box 0).c 2
        have HB := Lib.hid HT.below
        clear HT
        cases hq : ((mN : Int) == (lx : Int)) with
        | false =>
          have HF : Hid (okC R ts K = false) := Lib.hid (okC_no fun h => by
            have h1 := HMN.out.2.2 h.2.2.2
            rw [h1] at hq
            simp at hq)
          rw [hq] at hy
          subst hy
          clear hq
          go_wp2_with fail
          go_ret
          exact ⟨by rw [HF.out]; rfl, HB.out⟩
        | true =>
          have HNDP : Hid ts.Nodup := Lib.hid (HMN.out.2.1 (Int.ofNat.inj (by simpa using hq)))
          rw [hq] at hy
          subst hy
          clear hq
          have HF : Hid (okC R ts K = inV (lx : Int) 1000000000 K) := Lib.hid (by
            unfold okC okCa inV
            rw [Bool.eq_iff_iff]
            simp only [decide_eq_true_eq, Bool.and_eq_true, ← HLX.out]
            have h1 := HR12.out
            have h2 := HG.out
            exact ⟨fun h => h.2.2.1, fun h => ⟨h1, by omega, h, HNDP.out⟩⟩)
          have HIK := Lib.hid (fun W => isWithinV K (lx : Int) 1000000000 W)
          obtain ⟨q, hq⟩ : ∃ q, q = inV (lx : Int) 1000000000 K := ⟨_, rfl⟩
          rw [← hq] at HF HIK
          clear hq
          go_wp2_with fail
          refine (HIK.out _).mono ?_
          rintro e w3 ⟨rfl, rfl⟩
          go_wp2_with fail
          go_ret
          exact ⟨by rw [HF.out]; rfl, HB.out⟩
end Go.Proofs.Ytaelhbbfddcabaa
