/-
  Proved: the law FnCache returns true for every input and its arguments read behind the call as they read before. Conditions: none of our own; those of the given row alone.
-/
import Derived.Test.YtaelhbbfddcabaaRows
import Derived.WalkKit
import Derived.ProofKit
import Derived.OpenShut
import Derived.ShutString
import Derived.SliceStrings
import Derived.ChangeOld
import Derived.Below
import Derived.Test.YtaelhbbfddcabaaMem
import Derived.Test.YtaelhbbfddcabaaInts
import Derived.Test.YtaelhbbfddcabaaFlat
import Derived.Test.YtaelhbbfddcabaaVbox
import Derived.Test.YtaelhbbfddcabaaHeld
import Derived.Test.YtaelhbbfddcabaaRowC
import Derived.Test.YtaelhbbfddcabaaKS
import Derived.Test.YtaelhbbfddcabaaStrS
import Derived.Test.YtaelhbbfddcabaaIntS
import Derived.Test.YtaelhbbfddcabaaSS
import Derived.Test.YtaelhbbfddcabaaPg
import Derived.Test.YtaelhbbfddcabaaVi
import Derived.Test.YtaelhbbfddcabaaVa
import Derived.Test.YtaelhbbfddcabaaVb
import Derived.Test.YtaelhbbfddcabaaVc
import Derived.Test.YtaelhbbfddcabaaVd
import Derived.Test.YtaelhbbfddcabaaVe
import Derived.Test.YtaelhbbfddcabaaVf
import Derived.Test.YtaelhbbfddcabaaVg
import Derived.Test.YtaelhbbfddcabaaVh
import Derived.Test.YtaelhbbfddcabaaVl
import Derived.Test.YtaelhbbfddcabaaWa
import Derived.Test.YtaelhbbfddcabaaWb
import Derived.Test.YtaelhbbfddcabaaWc
import Derived.Test.YtaelhbbfddcabaaWd
import Derived.Test.YtaelhbbfddcabaaWe
import Derived.Test.YtaelhbbfddcabaaWf
import Derived.Test.YtaelhbbfddcabaaWg
import Derived.Test.YtaelhbbfddcabaaWh
import Derived.Test.YtaelhbbfddcabaaWi
import Derived.Test.YtaelhbbfddcabaaCur
import Derived.Test.YtaelhbbfddcabaaGd
import Derived.Test.YtaelhbbfddcabaaVs
import Derived.Test.YtaelhbbfddcabaaWj
import Derived.Test.YtaelhbbfddcabaaVq
import Derived.Test.YtaelhbbfddcabaaWm
import Derived.Test.YtaelhbbfddcabaaWn
import Derived.Test.YtaelhbbfddcabaaWq
import Derived.Test.YtaelhbbfddcabaaWr
import Derived.Test.YtaelhbbfddcabaaWs
import Derived.Test.YtaelhbbfddcabaaWt
import Derived.Deep.RegionHeld3
import Derived.Deep.DeepCutAuto
import Derived.Handy
namespace Go.Proofs.Ytaelhbbfddcabaa.fnCache
open Go.ChangeShapes Go.WideShapes Go.ChangeAt Go.RowKit
open Go.ChangeMaps (open_string shut_string)
set_option linter.unusedVariables false

theorem own : ownKnob Try.prog.godebug = none := by kernel_rfl
theorem laidOut : laidOutB Try.prog = true := by kernel_rfl
set_option maxRecDepth 100000 in
set_option maxHeartbeats 16000000 in
theorem walk (w : World) (a0 : Option Addr) (c0 : Nat) (x0 : List Int) (r0 : Row (Value.int .u8) w w.heap.size a0 x0) (m0 : x0.length ≤ maxLen) (w0 : ∀ x ∈ x0, (Lit.int .u8 x).wf = true) :
    Calls Try.prog 3 #[.slice a0 x0.length c0] w fun e w' => e = .returned (.bool true) ∧ Below w.heap.size w w' := by
  have H8 : Hid (∀ x ∈ x0, 0 ≤ x ∧ x ≤ 255) := Lib.hid (fun x hx => bounds_u8 (w0 x hx))
  have HR : Hid (∀ W, Below w.heap.size w W → Row U8 W W.heap.size a0 x0) := Lib.hid (fun W h => r0.later h)
  clear w0 r0
  by_cases hbig : x0.length ≤ 1048576
  · have HBIG := Lib.hid hbig
    go_enter Try.func3, Try.ntmps3
    go_wp2_with fail
    refine (makeTex_any _ _ x0 _ (HR.out _ (Below.refl _ _)) H8.out hbig).mono ?_
    rintro e w1 ⟨L, ts, A, c, hok, rfl, ho1, hb1⟩
    have hl := (okX_len hok).1
    have HOK := Lib.hid (And.intro hok (And.intro hl (own_capT ho1)))
    have HT := ((Held.nil w).later hb1).new #[.int .i64 L, .slice A ts.length c] 25
    have RA := (Row.of_own ho1 : Row I64 w1 w1.heap.size A ts).alloc (Nat.le_refl _) (.cells #[.int .i64 L, .slice A ts.length c] 25)
    have RA := RA.more (show w1.heap.size ≤ (w1.alloc (.cells #[.int .i64 L, .slice A ts.length c] 25)).heap.size by simp)
    clear hbig hb1 hok hl ho1
    go_upto_region 4 with fail
    obtain ⟨W2, hW2⟩ : ∃ W, W = w1.alloc (.cells #[.int .i64 L, .slice A ts.length c] 25) := ⟨_, rfl⟩
    obtain ⟨k3, hk3⟩ : ∃ k, k = w1.heap.size := ⟨_, rfl⟩
    rw [← hW2] at HT RA ⊢
    rw [← hk3] at HT ⊢
    clear hW2 hk3
    go_wp2_with fail
    refine (makeCache_any _ _ x0 _ (HR.out _ HT.below) H8.out HBIG.out).mono ?_
    rintro e w3 ⟨R, Q, gs, D, d, ⟨hoc, hsm⟩, hq4, rfl, ho3, hb3⟩
    have HWG : Hid (∀ e ∈ gs, wf3 e) := Lib.hid (fun e he => by
      have h1 := hsm e he
      exact ⟨wfZ_of (by omega) (by omega), wfZ_of (by omega) (by omega), wfZ_of (by omega) (by omega)⟩)
    clear hsm
    have HT := (HT.later hb3).new #[.int .i64 R, .slice D gs.length d, .int .i64 Q] 29
    have hbx : Below w3.heap.size w3 (w3.alloc (.cells #[.int .i64 R, .slice D gs.length d, .int .i64 Q] 29)) := by go_grown
    have RA := (RA.later hb3).later hbx
    have RD := (RowC.of_own vg_len ho3 rfl : RowC 3 vg w3 w3.heap.size D gs).later hbx
    have hoc2 := okC_iff.1 hoc
    have HOC := Lib.hid (show okC R gs Q = true ∧ Q ≤ 4 ∧ gs.length ≤ 12 ∧ gs.length ≤ d ∧ 0 ≤ Q from ⟨hoc, hq4, by have h1 := hoc2.1; have h2 := hoc2.2.1; omega, own_capG ho3, by have h1 := hoc2.2.2.1; omega⟩)
    clear hoc hoc2 hq4 ho3 hb3 hbx
    go_upto_region 5 with fail
    obtain ⟨W4, hW4⟩ : ∃ W, W = w3.alloc (.cells #[.int .i64 R, .slice D gs.length d, .int .i64 Q] 29) := ⟨_, rfl⟩
    obtain ⟨k4, hk4⟩ : ∃ k, k = w3.heap.size := ⟨_, rfl⟩
    rw [← hW4] at HT RA RD ⊢
    rw [← hk4] at HT ⊢
    clear hW4 hk4
    have HNM := Lib.hid (fun (n : Int) W (h : Below W4.heap.size W4 W) (h0 : 0 ≤ n ∧ n ≤ 3) => makeNum_any a0 c0 x0 n W (HR.out W (HT.below.trans (h.mono HT.below.size))) H8.out HBIG.out h0.1 (by omega))
    have HTI := Lib.hid HT
    have HRA := Lib.hid (fun W (h : Below W4.heap.size W4 W) => RA.later h)
    have HRD := Lib.hid (fun W (h : Below W4.heap.size W4 W) => RD.later h)
    have HBW := Lib.hid (Below.refl W4.heap.size W4)
    clear HT RA RD
    go_cut [5] (fun y wx => ∃ u : Int, y = .int .i64 u ∧ Below W4.heap.size W4 wx)
    case first =>
      go_wp2_with fail
      refine (HNM.out 1 _ HBW.out (by omega)).mono ?_
      rintro e w6 ⟨x, x1, x2, rfl, hb6⟩
      have HB6 := Lib.hid (HBW.out.trans (hb6.mono HBW.out.size))
      clear hb6 x1 x2
      go_wp2_with fail
      go_meet
      exact ⟨_, rfl, HB6.out⟩
    case' rest => obtain ⟨u, rfl, hbw⟩ := hcut
    have HBW := Lib.hid hbw
    clear hbw
    go_upto_region 6 with fail
    go_cut [6] (fun y wx => ∃ v : Int, y = .int .i64 v ∧ Below W4.heap.size W4 wx)
    case first =>
      go_wp2_with fail
      refine (HNM.out 2 _ HBW.out (by omega)).mono ?_
      rintro e w6 ⟨x, x1, x2, rfl, hb6⟩
      have HB6 := Lib.hid (HBW.out.trans (hb6.mono HBW.out.size))
      clear hb6 x1 x2
      go_wp2_with fail
      go_meet
      exact ⟨_, rfl, HB6.out⟩
    case' rest => obtain ⟨v, rfl, hbw⟩ := hcut
    have HBW := Lib.hid hbw
    clear hbw
    go_upto_region 7 with fail
    go_cut [7] (fun y wx => ∃ lv : Int, y = .int .i64 lv ∧ Below W4.heap.size W4 wx)
    case first =>
      go_wp2_with fail
      refine (HNM.out 3 _ HBW.out (by omega)).mono ?_
      rintro e w6 ⟨x, x1, x2, rfl, hb6⟩
      have HB6 := Lib.hid (HBW.out.trans (hb6.mono HBW.out.size))
      clear hb6 x1 x2
      go_wp2_with fail
      go_meet
      exact ⟨_, rfl, HB6.out⟩
    case' rest => obtain ⟨lv, rfl, hbw⟩ := hcut
    have HBW := Lib.hid hbw
    clear hbw
    obtain ⟨zs, J, hz⟩ : ∃ zs J, clC L ts R gs Q u v lv = (zs, J) := ⟨_, _, rfl⟩
    obtain ⟨ys, P, hy⟩ : ∃ ys P, clC L ts R zs J u v lv = (ys, P) := ⟨_, _, rfl⟩
    have hlaw := cache_law HOK.out.1 HOC.out.1 (by have := HOC.out; omega) hz
    have hzw : ∀ e ∈ zs, wf3 e := by
      have h1 := clC_wf (L := L) (ts := ts) (R := R) (Q := Q) (u := u) (v := v) (lv := lv) HWG.out
      rw [hz] at h1
      exact h1
    have hyw : ∀ e ∈ ys, wf3 e := by
      have h1 := clC_wf (L := L) (ts := ts) (R := R) (Q := J) (u := u) (v := v) (lv := lv) hzw
      rw [hy] at h1
      exact h1
    rw [hy] at hlaw
    dsimp only at hlaw
    obtain ⟨V, hV⟩ : ∃ V, V = lkP L ts u v lv := ⟨_, rfl⟩
    have HC1 := Lib.hid (fun W (h : Below W4.heap.size W4 W) => cachedL_any L A c ts R D d gs Q u v lv W (HRA.out W h) (HRD.out W h) HWG.out (by have := HOK.out; omega) HOK.out.2.2 (by have := HOC.out; omega))
    rw [hlaw.1, hz, ← hV] at HC1
    have hzl : zs.length ≤ 12 := by have h1 := (okC_iff.1 hlaw.2.2.1).1; have h2 := (okC_iff.1 hlaw.2.2.1).2.1; omega
    have hyl : ys.length ≤ 12 := by have h1 := (okC_iff.1 hlaw.2.2.2.1).1; have h2 := (okC_iff.1 hlaw.2.2.2.1).2.1; omega
    have HC2 := Lib.hid (fun W D2 d2 (h : Below W4.heap.size W4 W) (h' : RowC 3 vg W W.heap.size D2 zs) (_ : zs.length ≤ d2) => cachedL_any L A c ts R D2 d2 zs J u v lv W (HRA.out W h) h' hzw (by have := HOK.out; omega) HOK.out.2.2 (by omega))
    rw [hlaw.2.1, hy, ← hV] at HC2
    have HC3 := Lib.hid (fun W (h : Below W4.heap.size W4 W) => lookup_any L A c ts u v lv W (HRA.out W h) (by have := HOK.out; omega) HOK.out.2.2)
    rw [← hV] at HC3
    have HV1 := Lib.hid (fun W D2 d2 (h' : RowC 3 vg W W.heap.size D2 zs) => isValidC_any R D2 d2 zs J W h' hzw (by omega))
    rw [hlaw.2.2.1] at HV1
    have HV2 := Lib.hid (fun W D2 d2 (h' : RowC 3 vg W W.heap.size D2 ys) => isValidC_any R D2 d2 ys P W h' hyw (by omega))
    rw [hlaw.2.2.2.1] at HV2
    have HLW := Lib.hid (show Q ≤ J ∧ J ≤ Q + 4 ∧ (4 ≤ R → P = J) from hlaw.2.2.2.2)
    have HT := HTI.out.later HBW.out
    have m0 := (HT.box 1).c 0
    have m1 := (HT.box 1).c 1
    have n0 := (HT.box 0).c 0
    have n1 := (HT.box 0).c 1
    have n2 := (HT.box 0).c 2
    clear hz hy hlaw hV hzl hyl hzw hyw HNM
    go_wp2_with fail
    refine (HC1.out _ HBW.out).mono ?_
    rintro e w6 ⟨D2, d2, rfl, ho6, hb6⟩
    have HBW := Lib.hid (HBW.out.trans (hb6.mono HBW.out.size))
    have HT := (HT.later hb6).new #[.int .i64 R, .slice D2 zs.length d2, .int .i64 J] 29
    have hbx : Below w6.heap.size w6 (w6.alloc (.cells #[.int .i64 R, .slice D2 zs.length d2, .int .i64 J] 29)) := by go_grown
    have RZ := (RowC.of_own vg_len ho6 rfl : RowC 3 vg w6 w6.heap.size D2 zs).later hbx
    have HCZ := Lib.hid (own_capG ho6)
    have HBW := Lib.hid (HBW.out.trans (hbx.mono HBW.out.size))
    clear ho6 hb6 hbx m0 m1 n0 n1 n2
    go_upto_region 9 with fail
    obtain ⟨W7, hW7⟩ : ∃ W, W = w6.alloc (.cells #[.int .i64 R, .slice D2 zs.length d2, .int .i64 J] 29) := ⟨_, rfl⟩
    obtain ⟨k9, hk9⟩ : ∃ k, k = w6.heap.size := ⟨_, rfl⟩
    rw [← hW7] at HT RZ HBW ⊢
    rw [← hk9] at HT ⊢
    clear hW7 hk9
    have m0 := (HT.box 2).c 0
    have m1 := (HT.box 2).c 1
    have n0 := (HT.box 0).c 0
    have n1 := (HT.box 0).c 1
    have n2 := (HT.box 0).c 2
    go_wp2_with fail
    refine (HC2.out _ _ _ HBW.out RZ HCZ.out).mono ?_
    rintro e w8 ⟨D3, d3, rfl, ho8, hb8⟩
    have HBW := Lib.hid (HBW.out.trans (hb8.mono HBW.out.size))
    have HT := (HT.later hb8).new #[.int .i64 R, .slice D3 ys.length d3, .int .i64 P] 29
    have hbx : Below w8.heap.size w8 (w8.alloc (.cells #[.int .i64 R, .slice D3 ys.length d3, .int .i64 P] 29)) := by go_grown
    have RZ := (RZ.later hb8).later hbx
    have RY := (RowC.of_own vg_len ho8 rfl : RowC 3 vg w8 w8.heap.size D3 ys).later hbx
    have HBW := Lib.hid (HBW.out.trans (hbx.mono HBW.out.size))
    clear ho8 hb8 hbx m0 m1 n0 n1 n2
    go_upto_region 10 with fail
    obtain ⟨W9, hW9⟩ : ∃ W, W = w8.alloc (.cells #[.int .i64 R, .slice D3 ys.length d3, .int .i64 P] 29) := ⟨_, rfl⟩
    obtain ⟨k11, hk11⟩ : ∃ k, k = w8.heap.size := ⟨_, rfl⟩
    rw [← hW9] at HT RZ RY HBW ⊢
    rw [← hk11] at HT ⊢
    clear hW9 hk11
    have m0 := (HT.box 3).c 0
    have m1 := (HT.box 3).c 1
    go_wp2_with fail
    refine (HC3.out _ HBW.out).mono ?_
    rintro e wA ⟨rfl, hbA⟩
    have HT := HT.later hbA
    have RZ := RZ.later hbA
    have RY := RY.later hbA
    clear hbA m0 m1
    have n0 := (HT.box 1).c 0
    have n1 := (HT.box 1).c 1
    have n2 := (HT.box 1).c 2
    go_wp2_with fail
    refine (HV1.out _ _ _ RZ).mono ?_
    rintro e wB ⟨rfl, hbB⟩
    have HT := HT.later hbB
    have RY := RY.later hbB
    clear hbB n0 n1 n2 RZ
    have n0 := (HT.box 0).c 0
    have n1 := (HT.box 0).c 1
    have n2 := (HT.box 0).c 2
    go_wp2_with fail
    refine (HV2.out _ _ _ RY).mono ?_
    rintro e wC ⟨rfl, hbC⟩
    have HT := HT.later hbC
    have HTB := Lib.hid HT.below
    clear hbC n0 n1 n2 RY
    have m0 := (HT.box 2).c 0
    have m2 := (HT.box 2).c 2
    have n2 := (HT.box 1).c 2
    have q2 := (HT.box 0).c 2
    have e4 : IntKind.i64.wrap (Q + 4) = Q + 4 := wrap_v (by have := HOC.out; omega)
    have hj1 : Q ≤ J := HLW.out.1
    have hj2 : J ≤ Q + 4 := HLW.out.2.1
    have d1 : decide (Q ≤ J) = true := decide_eq_true hj1
    have d2' : decide (J ≤ Q + 4) = true := decide_eq_true hj2
    clear HT
    by_cases hR4 : R < 4
    · have d3' : decide (R < 4) = true := decide_eq_true hR4
      go_wp2_with fail
      go_ret
      exact ⟨rfl, HTB.out⟩
    · obtain rfl : P = J := HLW.out.2.2 (by omega)
      have d3' : decide (R < 4) = false := decide_eq_false hR4
      go_wp2_with fail
      go_ret
      exact ⟨rfl, HTB.out⟩
  · have hbig' : (1048576 : Int) < (x0.length : Int) := by omega
    go_enter Try.func3, Try.ntmps3
    go_wp2
    go_ret
    exact ⟨rfl, Below.refl _ _⟩

set_option maxRecDepth 100000 in
theorem lifted (os : Os) (started : os.Started) (H : Type) (enc : TypeId × Value → H) :
    ReturnsInHanded {} Try.checked os 3 .any (Rows.fnCacheSpec.pre6 enc Try.prog Try.f3 Rows.fnCacheRow.domain false) (Rows.fnCacheSpec.post enc Try.prog Try.f3 false true false false) := by
  refine returnsInHanded_of_change (C := Try.checked) own started (by kernel_rfl) Try.func3
    (ChangeSpec.witness6 (enc := enc) (C := Try.checked) false ⟨#[], #[.slice none 0 0], []⟩ 8 (by kernel_rfl) (by kernel_rfl) (by kernel_rfl) (by kernel_rfl)) ?_
  intro W base args ds gs before hval0 hW hcnd _
  have hval : ∀ (j : Nat) t v, Try.f3.params[j]? = some t → args[j]? = some v → Value.okWide Try.prog W .any base t v := hval0
  have hW' := hW
  obtain ⟨p, q, hA0, hV, rfl, hfz, hnd⟩ := hW
  have hA : DataW.TrodAll enc Try.prog W 0 (fun _ => true) true Try.f3.params.toList args.toList ds p := hA0
  rw [Try.params3] at hA hval
  obtain ⟨v0, vs0, d0, ds0, p0, q0, hargs, rfl, rfl, h0, r1000⟩ := trodAll_cons hA
  obtain ⟨rfl, rfl, rfl⟩ := trodAll_nil r1000
  obtain rfl : args = #[v0] := by cases args; simp_all
  obtain ⟨rfl, rfl⟩ := trodVars_none hV
  obtain ⟨a0, len0, cap0, rfl⟩ := okWide_slice Try.underlying22 (hval 0 22 v0 rfl rfl)
  have k0 := h0
  have lt0 : ∀ x ∈ p0, x.block < W.heap.size := by obtain ⟨m, hm⟩ := k0; exact DataW.trod_lt m _ _ _ hm
  obtain ⟨x0, rfl, r0, m0, w0⟩ : ∃ xs : List Int, len0 = xs.length ∧ Row (Value.int .u8) W W.heap.size a0 xs ∧ xs.length ≤ maxLen ∧ ∀ x ∈ xs, (Lit.int .u8 x).wf = true := by
    obtain ⟨fuel, hf⟩ := h0
    rcases open_ints Try.underlying22 Try.underlying5 (by kernel_rfl) hf with ⟨hcs, _⟩ | ⟨x, l, c, zs, hcs, _, hl, hm, hz, _, hcell, hwz⟩
    · simp [Value.cells] at hcs
      obtain ⟨rfl, rfl, rfl⟩ := hcs
      exact ⟨[], rfl, Row.nil, Nat.zero_le _, fun x hx => by cases hx⟩
    · simp [Value.cells] at hcs
      obtain ⟨rfl, rfl, rfl⟩ := hcs
      exact row_of_cells (d := (0 : Int)) hl hm (by simpa using hz) hcell hwz
  clear hA0
  refine (walk W a0 cap0 x0 r0 m0 w0).mono fun e W' ⟨he, bel⟩ => ?_
  subst he
  exact ⟨_, rfl, _, _, _, [], _, [], hW', trodAll_mk1 (shut_bool Try.underlying4 _), (trodAll_cons_mk (Below.trod laidOut (by kernel_rfl) (of_decide_eq_true (by kernel_rfl)) k0 bel lt0) trodAll_mk0), rfl, bel.frame _, fun h => by cases h⟩

theorem proved : Rows.FnCacheSaid :=
  OpenClaim.holds_of_wide 3 Try.f3 rfl rfl rfl rfl rfl rfl rfl ⟨rfl, rfl, rfl, rfl, rfl⟩ rfl rfl rfl rfl rfl (by kernel_rfl) Try.func3 (by kernel_rfl)
    (of_decide_eq_true (by kernel_rfl)) (by unfold Func.isWrapper; first | (rw [if_pos (by decide +kernel)]; kernel_rfl) | (rw [if_neg (by decide +kernel)]; exact ⟨rfl, rfl⟩))
    (fun os started H enc _ => lifted os started H enc)
#print axioms proved
end Go.Proofs.Ytaelhbbfddcabaa.fnCache
