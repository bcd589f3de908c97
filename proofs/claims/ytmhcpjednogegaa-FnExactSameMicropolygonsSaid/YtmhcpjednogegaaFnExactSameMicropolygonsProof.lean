/-
  Proved: the law FnExactSameMicropolygons returns true for every input and its arguments read behind the call as they read before. Conditions: none of our own; those of the given row alone.
-/
import Derived.Test.YtmhcpjednogegaaRows
import Derived.WalkKit
import Derived.ProofKit
import Derived.OpenShut
import Derived.ShutString
import Derived.SliceStrings
import Derived.ChangeOld
import Derived.Below
import Derived.Test.YtmhcpjednogegaaKV
import Derived.Test.YtmhcpjednogegaaFlat
import Derived.Test.YtmhcpjednogegaaVbox
import Derived.Test.YtmhcpjednogegaaVec
import Derived.Test.YtmhcpjednogegaaHeld
import Derived.Test.YtmhcpjednogegaaMem
import Derived.Test.YtmhcpjednogegaaRowC
import Derived.Test.YtmhcpjednogegaaArr
import Derived.Test.YtmhcpjednogegaaTr
import Derived.Test.YtmhcpjednogegaaVecS
import Derived.Test.YtmhcpjednogegaaDy
import Derived.Test.YtmhcpjednogegaaTri
import Derived.Test.YtmhcpjednogegaaTSm
import Derived.Test.YtmhcpjednogegaaDv
import Derived.Test.YtmhcpjednogegaaDm
import Derived.Test.YtmhcpjednogegaaDx
import Derived.Deep.RegionHeld3
import Derived.Deep.DeepCutAuto
import Derived.Handy
namespace Go.Proofs.Ytmhcpjednogegaa.fnExactSameMicropolygons
open Go.ChangeShapes Go.WideShapes Go.ChangeAt Go.RowKit
open Go.ChangeMaps (open_string shut_string)
set_option linter.unusedVariables false

theorem own : ownKnob Try.prog.godebug = none := by kernel_rfl
theorem laidOut : laidOutB Try.prog = true := by kernel_rfl
theorem flat3 : FlatI Try.prog 3 (Try.prog.cellsOf 3) := by rw [show Try.prog.cellsOf 3 = 1 by kernel_rfl]; exact flat1 Try.underlying3
theorem cells49 : Try.prog.cellsOf 49 = 3 := by kernel_rfl
theorem flatE49 : FlatI Try.prog 49 3 := flatS Try.underlying49 cells49 (by exact ⟨by kernel_rfl, flat3, ⟨by kernel_rfl, flat3, ⟨by kernel_rfl, flat3, by unfold FlatFs; kernel_rfl⟩⟩⟩)
theorem cellsE49 : Try.prog.cellsOf 49 = 3 := by kernel_rfl
theorem cellsA92 : Try.prog.cellsOf 92 = 3 * 3 := by kernel_rfl
theorem flat92 : FlatI Try.prog 92 (Try.prog.cellsOf 92) := by rw [show Try.prog.cellsOf 92 = 9 by kernel_rfl]; exact flatA Try.underlying92 cellsA92 cellsE49 flatE49
theorem cells94 : Try.prog.cellsOf 94 = 9 := by kernel_rfl
theorem flat94 : FlatI Try.prog 94 (Try.prog.cellsOf 94) := by rw [show Try.prog.cellsOf 94 = 9 by kernel_rfl]; exact flatS Try.underlying94 cells94 (by exact ⟨by kernel_rfl, flat92, by unfold FlatFs; kernel_rfl⟩)
theorem cells96 : Try.prog.cellsOf 96 = 12 := by kernel_rfl
theorem flat96_ : FlatI Try.prog 96 12 := flatS Try.underlying96 cells96 (by exact ⟨by kernel_rfl, flat94, ⟨by kernel_rfl, flat3, ⟨by kernel_rfl, flat3, ⟨by kernel_rfl, flat3, by unfold FlatFs; kernel_rfl⟩⟩⟩⟩)
set_option maxRecDepth 100000 in
set_option maxHeartbeats 8000000 in
theorem walk (w : World) (a0 : Option Addr) (c0 : Nat) (x0 : List V12) (r0 : RowC 12 tg w w.heap.size a0 x0) (m0 : x0.length ≤ maxLen) (a1 : Option Addr) (c1 : Nat) (x1 : List V12) (r1 : RowC 12 tg w w.heap.size a1 x1) (m1 : x1.length ≤ maxLen) :
    Calls Try.prog 8 #[.slice a0 x0.length c0, .slice a1 x1.length c1] w fun e w' => e = .returned (.bool true) ∧ Below w.heap.size w w' := by
  obtain ⟨n, hn⟩ : ∃ n, n = x0.length := ⟨_, rfl⟩
  obtain ⟨n', hn'⟩ : ∃ n, n = x1.length := ⟨_, rfl⟩
  obtain ⟨b, hbb⟩ : ∃ b, b = sameL x0 x1 := ⟨_, rfl⟩
  have HN := Lib.hid hn
  have HN' := Lib.hid hn'
  have HT0 : ∀ (A : Option Addr) (c : Nat) (w : World), RowC 12 tg w w.heap.size A x0 → n ≤ 1048576 → Calls Try.prog 29 #[.slice A n c] w (fun e w' => e = .returned (.slice (some ⟨w.heap.size, 0, none⟩) n n) ∧ Below w.heap.size w w' ∧ RowC 12 tg w' w'.heap.size (some ⟨w.heap.size, 0, none⟩) x0) := fun A c w h hl => by
    have e := HN.out; have e' := HN'.out; subst e; subst e'; exact toMicS_any A c x0 w h (by omega)
  have HT1 : ∀ (A : Option Addr) (c : Nat) (w : World), RowC 12 tg w w.heap.size A x1 → n' ≤ 1048576 → Calls Try.prog 29 #[.slice A n' c] w (fun e w' => e = .returned (.slice (some ⟨w.heap.size, 0, none⟩) n' n') ∧ Below w.heap.size w w' ∧ RowC 12 tg w' w'.heap.size (some ⟨w.heap.size, 0, none⟩) x1) := fun A c w h hl => by
    have e := HN.out; have e' := HN'.out; subst e; subst e'; exact toMicS_any A c x1 w h (by omega)
  have HS : ∀ (A A' : Option Addr) (c c' : Nat) (w : World), RowC 12 tg w w.heap.size A x0 → RowC 12 tg w w.heap.size A' x1 → n ≤ 1048576 → Calls Try.prog 28 #[.slice A n c, .slice A' n' c'] w (BOut b w) := fun A A' c c' w h h' hl => by
    have e := HN.out; have e' := HN'.out; subst e; subst e'; rw [hbb]; exact sSameMic_any A A' c c' x0 x1 w (rowM h) (rowM h') hl
  have HI : ∀ (A A' : Option Addr) (c c' : Nat) (w : World), RowC 12 tg w w.heap.size A x0 → RowC 12 tg w w.heap.size A' x1 → n ≤ 1048576 → Calls Try.prog 30 #[.slice A n c, .slice A' n' c'] w (BOut b w) := fun A A' c c' w h h' hl => by
    have e := HN.out; have e' := HN'.out; subst e; subst e'; rw [hbb]; exact sameMic_any A A' c c' x0 x1 w (rowM h) (rowM h') hl
  have HE0 : ∀ (A A' : Option Addr) (c c' : Nat) (w : World), RowC 12 tg w w.heap.size A x0 → RowC 12 tg w w.heap.size A' x0 → n ≤ 1048576 → Calls Try.prog 21 #[.slice A n c, .slice A' n c'] w (fun e w' => e = .returned (.bool true) ∧ Below w.heap.size w w') := fun A A' c c' w h h' hl => by
    have e := HN.out; have e' := HN'.out; subst e; subst e'; exact eqMicS_same A A' c c' x0 w (rowM h) (rowM h') hl
  have HE1 : ∀ (A A' : Option Addr) (c c' : Nat) (w : World), RowC 12 tg w w.heap.size A x1 → RowC 12 tg w w.heap.size A' x1 → n' ≤ 1048576 → Calls Try.prog 21 #[.slice A n' c, .slice A' n' c'] w (fun e w' => e = .returned (.bool true) ∧ Below w.heap.size w w') := fun A A' c c' w h h' hl => by
    have e := HN.out; have e' := HN'.out; subst e; subst e'; exact eqMicS_same A A' c c' x1 w (rowM h) (rowM h') hl
  rw [← hn] at m0 ⊢
  rw [← hn'] at m1 ⊢
  have R0 := r0
  have R1 := r1
  clear hn hn' hbb r0 r1 HN HN'
  have HW := Held.nil w
  by_cases hl0 : n ≤ 1048576
  case neg =>
    have hlt : (1048576 : Int) < (n : Int) := by omega
    clear HT0 HT1 HS HI HE0 HE1
    go_enter Try.func8, Try.ntmps8
    go_wp2_with fail
    refine (szMicS_no _ _ _ _ _ hlt (by omega) m0).mono ?_
    rintro e w' ⟨rfl, rfl⟩
    go_wp2_with fail
    go_ret
    exact ⟨rfl, HW.below⟩
  have hl' : (n : Int) ≤ 1048576 := by omega
  have hd : ¬ ((1048576 : Int) - (n : Int) < 0) := by omega
  by_cases hs : n + n' ≤ 1048576
  case neg =>
    have hlt : (1048576 : Int) - (n : Int) < (n' : Int) := by omega
    clear HT0 HT1 HS HI HE0 HE1
    go_enter Try.func8, Try.ntmps8
    go_wp2_with fail
    refine (szMicS_yes _ _ _ _ _ hl' (by omega)).mono ?_
    rintro e w' ⟨rfl, rfl⟩
    go_wp2_with fail
    refine (szMicS_no _ _ _ _ _ hlt (by omega) m1).mono ?_
    rintro e w' ⟨rfl, rfl⟩
    go_wp2_with fail
    go_ret
    exact ⟨rfl, HW.below⟩
  case pos =>
    have hl1 : n' ≤ 1048576 := by omega
    have hl2 : (n' : Int) ≤ (1048576 : Int) - (n : Int) := by omega
    have hd2 : ¬ ((1048576 : Int) - (n : Int) - (n' : Int) < 0) := by omega
    go_enter Try.func8, Try.ntmps8
    go_wp2_with fail
    refine (szMicS_yes _ _ _ _ _ hl' (by omega)).mono ?_
    rintro e w' ⟨rfl, rfl⟩
    go_wp2_with fail
    refine (szMicS_yes _ _ _ _ _ hl2 (by omega)).mono ?_
    rintro e w' ⟨rfl, rfl⟩
    go_wp2_with fail
    refine (HT0 _ _ _ R0 hl0).mono ?_
    rintro e w' ⟨rfl, hb, S0⟩
    have R0 := R0.later hb
    have R1 := R1.later hb
    have HW := HW.later hb
    clear hb
    go_wp2_with fail
    refine (HT1 _ _ _ R1 hl1).mono ?_
    rintro e w' ⟨rfl, hb, S1⟩
    have R1 := R1.later hb
    have R0 := R0.later hb
    have S0 := S0.later hb
    have HW := HW.later hb
    clear hb
    go_wp2_with fail
    refine (HS _ _ _ _ _ S0 S1 hl0).mono ?_
    rintro e w' ⟨rfl, hb⟩
    have R0 := R0.later hb
    have R1 := R1.later hb
    have HW := HW.later hb
    clear hb
    clear S0 S1
    go_wp2_with fail
    refine (HT0 _ _ _ R0 hl0).mono ?_
    rintro e w' ⟨rfl, hb, S0⟩
    have R0 := R0.later hb
    have R1 := R1.later hb
    have HW := HW.later hb
    clear hb
    go_wp2_with fail
    refine (HT1 _ _ _ R1 hl1).mono ?_
    rintro e w' ⟨rfl, hb, S1⟩
    have R1 := R1.later hb
    have R0 := R0.later hb
    have S0 := S0.later hb
    have HW := HW.later hb
    clear hb
    go_wp2_with fail
    refine (HI _ _ _ _ _ S0 S1 hl0).mono ?_
    rintro e w' ⟨rfl, hb⟩
    have R0 := R0.later hb
    have R1 := R1.later hb
    have S0 := S0.later hb
    have S1 := S1.later hb
    have HW := HW.later hb
    clear hb
    clear HS HI
    cases b
    all_goals
      go_wp2_with fail
      refine (HT0 _ _ _ R0 hl0).mono ?_
      rintro e w' ⟨rfl, hb, T0⟩
      have R0 := R0.later hb
      have R1 := R1.later hb
      have S0 := S0.later hb
      have S1 := S1.later hb
      have HW := HW.later hb
      clear hb
      go_wp2_with fail
      refine (HE0 _ _ _ _ _ S0 T0 hl0).mono ?_
      rintro e w' ⟨rfl, hb⟩
      have R0 := R0.later hb
      have R1 := R1.later hb
      have S1 := S1.later hb
      have HW := HW.later hb
      clear hb
      go_wp2_with fail
      refine (HT1 _ _ _ R1 hl1).mono ?_
      rintro e w' ⟨rfl, hb, T1⟩
      have R1 := R1.later hb
      have S1 := S1.later hb
      have HW := HW.later hb
      clear hb
      go_wp2_with fail
      refine (HE1 _ _ _ _ _ S1 T1 hl1).mono ?_
      rintro e w' ⟨rfl, hb⟩
      have HW := HW.later hb
      clear hb
      go_wp2_with fail
      go_ret
      exact ⟨rfl, HW.below⟩

set_option maxRecDepth 100000 in
theorem lifted (os : Os) (started : os.Started) (H : Type) (enc : TypeId × Value → H) :
    ReturnsInHanded {} Try.checked os 8 .any (Rows.fnExactSameMicropolygonsSpec.pre6 enc Try.prog Try.f8 Rows.fnExactSameMicropolygonsRow.domain false) (Rows.fnExactSameMicropolygonsSpec.post enc Try.prog Try.f8 false true false false) := by
  refine returnsInHanded_of_change (C := Try.checked) own started (by kernel_rfl) Try.func8
    (ChangeSpec.witness6 (enc := enc) (C := Try.checked) false ⟨#[], #[.slice none 0 0, .slice none 0 0], []⟩ 8 (by kernel_rfl) (by kernel_rfl) (by kernel_rfl) (by kernel_rfl)) ?_
  intro W base args ds gs before hval0 hW hcnd _
  have hval : ∀ (j : Nat) t v, Try.f8.params[j]? = some t → args[j]? = some v → Value.okWide Try.prog W .any base t v := hval0
  have hW' := hW
  obtain ⟨p, q, hA0, hV, rfl, hfz, hnd⟩ := hW
  have hA : DataW.TrodAll enc Try.prog W 0 (fun _ => true) true Try.f8.params.toList args.toList ds p := hA0
  rw [Try.params8] at hA hval
  obtain ⟨v0, vs0, d0, ds0, p0, q0, hargs, rfl, rfl, h0, r1000⟩ := trodAll_cons hA
  obtain ⟨v1, vs1, d1, ds1, p1, q1, rfl, rfl, rfl, h1, r1001⟩ := trodAll_cons r1000
  obtain ⟨rfl, rfl, rfl⟩ := trodAll_nil r1001
  obtain rfl : args = #[v0, v1] := by cases args; simp_all
  obtain ⟨rfl, rfl⟩ := trodVars_none hV
  obtain ⟨a0, len0, cap0, rfl⟩ := okWide_slice Try.underlying64 (hval 0 64 v0 rfl rfl)
  have k0 := h0
  have lt0 : ∀ x ∈ p0, x.block < W.heap.size := by obtain ⟨m, hm⟩ := k0; exact DataW.trod_lt m _ _ _ hm
  obtain ⟨x0, rfl, r0, m0⟩ := rows_of_flat t12 tg tg_t12 Try.underlying64 (by kernel_rfl) flat96_ (by omega) h0
  obtain ⟨a1, len1, cap1, rfl⟩ := okWide_slice Try.underlying64 (hval 1 64 v1 rfl rfl)
  have k1 := h1
  have lt1 : ∀ x ∈ p1, x.block < W.heap.size := by obtain ⟨m, hm⟩ := k1; exact DataW.trod_lt m _ _ _ hm
  obtain ⟨x1, rfl, r1, m1⟩ := rows_of_flat t12 tg tg_t12 Try.underlying64 (by kernel_rfl) flat96_ (by omega) h1
  clear hA0
  refine (walk W a0 cap0 x0 r0 m0 a1 cap1 x1 r1 m1).mono fun e W' ⟨he, bel⟩ => ?_
  subst he
  exact ⟨_, rfl, _, _, _, [], _, [], hW', trodAll_mk1 (shut_bool Try.underlying4 _), (trodAll_cons_mk (Below.trod laidOut (by kernel_rfl) (of_decide_eq_true (by kernel_rfl)) k0 bel lt0) (trodAll_cons_mk (Below.trod laidOut (by kernel_rfl) (of_decide_eq_true (by kernel_rfl)) k1 bel lt1) trodAll_mk0)), rfl, bel.frame _, fun h => by cases h⟩

theorem proved : Rows.FnExactSameMicropolygonsSaid :=
  OpenClaim.holds_of_wide 8 Try.f8 rfl rfl rfl rfl rfl rfl rfl ⟨rfl, rfl, rfl, rfl, rfl⟩ rfl rfl rfl rfl rfl (by kernel_rfl) Try.func8 (by kernel_rfl)
    (of_decide_eq_true (by kernel_rfl)) (by unfold Func.isWrapper; first | (rw [if_pos (by decide +kernel)]; kernel_rfl) | (rw [if_neg (by decide +kernel)]; exact ⟨rfl, rfl⟩))
    (fun os started H enc _ => lifted os started H enc)
#print axioms proved
end Go.Proofs.Ytmhcpjednogegaa.fnExactSameMicropolygons
