/-
  Proved: the law FnExactUniformCount returns true for every input and its arguments read behind the call as they read before. Conditions: none of our own; those of the given row alone.
-/
import Derived.Test.YtpcdlehicdepaaaRows
import Derived.WalkKit
import Derived.ProofKit
import Derived.OpenShut
import Derived.ShutString
import Derived.SliceStrings
import Derived.ChangeOld
import Derived.Below
import Derived.Test.YtpcdlehicdepaaaMem
import Derived.Test.YtpcdlehicdepaaaInts
import Derived.Test.YtpcdlehicdepaaaFlat
import Derived.Test.YtpcdlehicdepaaaVbox
import Derived.Test.YtpcdlehicdepaaaHeld
import Derived.Test.YtpcdlehicdepaaaRowC
import Derived.Test.YtpcdlehicdepaaaKS
import Derived.Test.YtpcdlehicdepaaaStrS
import Derived.Test.YtpcdlehicdepaaaIntS
import Derived.Test.YtpcdlehicdepaaaSS
import Derived.Test.YtpcdlehicdepaaaPg
import Derived.Test.YtpcdlehicdepaaaPh
import Derived.Test.YtpcdlehicdepaaaPi
import Derived.Test.YtpcdlehicdepaaaPj
import Derived.Test.YtpcdlehicdepaaaPk
import Derived.Test.YtpcdlehicdepaaaPl
import Derived.Test.YtpcdlehicdepaaaPm
import Derived.Test.YtpcdlehicdepaaaIdent
import Derived.Test.YtpcdlehicdepaaaPn
import Derived.Test.YtpcdlehicdepaaaQa
import Derived.Test.YtpcdlehicdepaaaQb
import Derived.Test.YtpcdlehicdepaaaQc
import Derived.Test.YtpcdlehicdepaaaQd
import Derived.Test.YtpcdlehicdepaaaQe
import Derived.Test.YtpcdlehicdepaaaSa
import Derived.Test.YtpcdlehicdepaaaSb
import Derived.Test.YtpcdlehicdepaaaSc
import Derived.Test.YtpcdlehicdepaaaSd
import Derived.Test.YtpcdlehicdepaaaSe
import Derived.Test.YtpcdlehicdepaaaSf
import Derived.Test.YtpcdlehicdepaaaSg
import Derived.Test.YtpcdlehicdepaaaSh
import Derived.Test.YtpcdlehicdepaaaSi
import Derived.Test.YtpcdlehicdepaaaSj
import Derived.Test.YtpcdlehicdepaaaSk
import Derived.Test.YtpcdlehicdepaaaSl
import Derived.Test.YtpcdlehicdepaaaSm
import Derived.Test.YtpcdlehicdepaaaSn
import Derived.Test.YtpcdlehicdepaaaSp
import Derived.Test.YtpcdlehicdepaaaSq
import Derived.Test.YtpcdlehicdepaaaSr
import Derived.Test.YtpcdlehicdepaaaSt
import Derived.Deep.RegionHeld3
import Derived.Deep.DeepCutAuto
import Derived.Handy
namespace Go.Proofs.Ytpcdlehicdepaaa.fnExactUniformCount
open Go.ChangeShapes Go.WideShapes Go.ChangeAt Go.RowKit
open Go.ChangeMaps (open_string shut_string)
set_option linter.unusedVariables false

theorem own : ownKnob Try.prog.godebug = none := by kernel_rfl
theorem laidOut : laidOutB Try.prog = true := by kernel_rfl
theorem flatS69_ : FlatS Try.prog 69 [.str, .int] := flatSS (ks := [[.str], [.int]]) Try.underlying69 (n := 2) (by kernel_rfl) (by exact ⟨[.str], _, rfl, by kernel_rfl, by kernel_rfl, flatS_str Try.underlying9, ⟨[.int], _, rfl, by kernel_rfl, by kernel_rfl, flatS_int Try.underlying3, ⟨rfl, by kernel_rfl⟩⟩⟩)
set_option maxRecDepth 100000 in
set_option maxHeartbeats 8000000 in
theorem walk (w : World) (a0 b0 : Option Addr) (c0 d0 : Nat) (x0 : List Nd) (y0 : List As) (r0 : ProgIn w w.heap.size a0 b0 x0 y0) (m0 : x0.length ≤ maxLen ∧ y0.length ≤ maxLen) (v0 : ∀ z ∈ x0, NdOk z) (u0 : ∀ z ∈ y0, AsOk z) :
    Calls Try.prog 9 #[pgv a0 b0 x0.length c0 y0.length d0] w fun e w' => e = .returned (.bool true) ∧ Below w.heap.size w w' := by
  have HIN := Lib.hid r0
  have HV := Lib.hid v0
  have HU := Lib.hid u0
  have HMX := Lib.hid m0
  clear r0 v0 u0 m0
  have HT0 : Held w (w.alloc (.cells #[.slice a0 x0.length c0, .slice b0 y0.length d0] 29)) [(w.heap.size, [.slice a0 x0.length c0, .slice b0 y0.length d0])] := by
    have h := (Held.nil w).new #[.slice a0 x0.length c0, .slice b0 y0.length d0] 29
    simpa only [World.size_alloc] using h
  have HI : ∀ {bs : List (Nat × List Value)} (W : World), Held w W bs → ProgIn W W.heap.size a0 b0 x0 y0 := fun W h => (HIN.out.below h.below).more h.size
  have HS0 := szProg_any a0 b0 c0 d0 1048576 x0 y0 _ (HI _ HT0) HV.out HU.out (by have := HMX.out.1; unfold maxLen at this; omega) (by have := HMX.out.2; unfold maxLen at this; omega) (by omega)
  go_enter Try.func9, Try.ntmps9
  go_wp2_with fail
  refine HS0.mono ?_
  rintro e w1 ⟨hb1, hc⟩
  have HT := HT0.later hb1
  clear hb1 HT0 HS0
  rcases hc with ⟨hfit, rfl⟩ | ⟨hfit, rfl⟩
  · have hl : x0.length ≤ 1048576 := by omega
    have hl' : y0.length ≤ 1048576 := by omega
    have hm : ∀ x ∈ x0, x.2.2.2.length ≤ 1048576 := fun x hx => by
      have := szN_mem hx
      omega
    have hz : x0.length + szN x0 + (y0.length + szA y0) ≤ 1048576 := hfit
    obtain ⟨q, hq⟩ : ∃ q : Nat, q = 1048576 - (x0.length + szN x0 + (y0.length + szA y0)) := ⟨_, rfl⟩
    have hq0 : ¬ ((q : Nat) : Int) < 0 := by omega
    have hq1 : ((q : Nat) : Int) ≤ 1048576 := by omega
    rw [← hq]
    clear hq hfit
    obtain ⟨ans, hans⟩ : ∃ ans : Int, ans = ((cntU x0 y0 x0.length : Nat) : Int) := ⟨_, rfl⟩
    have HSV : ∀ W A B c d, ProgIn W W.heap.size A B x0 y0 → Calls Try.prog 25 #[pgv A B x0.length c y0.length d] W fun e w' => e = .returned (.int .i64 ans) ∧ Below W.heap.size W w' := fun W A B c d h => by rw [hans]; exact sUniCount_any A B c d x0 y0 W h hl hl' (by have := args_sz x0; omega) (nd_sz (by omega)) (as_sz (by omega))
    have HIV : ∀ W A B c d, ProgIn W W.heap.size A B x0 y0 → Calls Try.prog 26 #[pgv A B x0.length c y0.length d] W fun e w' => e = .returned (.int .i64 ans) ∧ Below W.heap.size W w' := fun W A B c d h => by rw [hans]; exact uniCount_any A B c d x0 y0 W h hl hl' (by have := args_sz x0; omega) (nd_sz (by omega)) (as_sz (by omega))
    have HLEN : Hid (x0.length ≤ 1099511627776 ∧ y0.length ≤ 1099511627776 ∧ ∀ x ∈ x0, x.2.2.2.length ≤ 1099511627776) := Lib.hid ⟨by omega, by omega, fun x hx => by have := hm x hx; omega⟩
    clear hans hl hl' hm hz
    have c0' := (HT.box 0).c 0
    have c1' := (HT.box 0).c 1
    go_wp2_with fail
    refine (toProg_rd a0 b0 c0 d0 x0 y0 _ (HI _ HT) HLEN.out.1 HLEN.out.2.1 HLEN.out.2.2).mono ?_
    rintro e w2 ⟨g2, g2', rfl, hb2, hm2⟩
    have HT := HT.later hb2
    clear hb2 c0' c1'
    go_wp2_with fail
    refine (HSV _ _ _ _ _ hm2).mono ?_
    rintro e w3 ⟨rfl, hb3⟩
    have HT := HT.later hb3
    clear hb3 hm2
    have c0' := (HT.box 0).c 0
    have c1' := (HT.box 0).c 1
    go_wp2_with fail
    refine (toProg_rd a0 b0 c0 d0 x0 y0 _ (HI _ HT) HLEN.out.1 HLEN.out.2.1 HLEN.out.2.2).mono ?_
    rintro e w4 ⟨g4, g4', rfl, hb4, hm4⟩
    have HT := (HT.later hb4).new #[.slice (some ⟨g4, 0, none⟩) x0.length x0.length, .slice (some ⟨g4', 0, none⟩) y0.length y0.length] 35
    have HX := (hm4.alloc (Nat.le_refl _) (.cells #[.slice (some ⟨g4, 0, none⟩) x0.length x0.length, .slice (some ⟨g4', 0, none⟩) y0.length y0.length] 35)).more (B' := (w4.alloc (.cells #[.slice (some ⟨g4, 0, none⟩) x0.length x0.length, .slice (some ⟨g4', 0, none⟩) y0.length y0.length] 35)).heap.size) (by simp)
    clear hb4 hm4 c0' c1'
    have c0' := (HT.box 0).c 0
    have c1' := (HT.box 0).c 1
    go_wp2_with fail
    refine (HIV _ _ _ _ _ HX).mono ?_
    rintro e w5 ⟨rfl, hb5⟩
    have HT := HT.later hb5
    have HX := HX.later hb5
    clear hb5 c0' c1'
    obtain ⟨X0, hX0⟩ : ∃ k, k = w4.heap.size := ⟨_, rfl⟩
    rw [← hX0] at HT ⊢
    clear hX0
    have HC : ∀ W, Held w W [(X0, [.slice (some ⟨g4, 0, none⟩) x0.length x0.length, .slice (some ⟨g4', 0, none⟩) y0.length y0.length]), (w.heap.size, [.slice a0 x0.length c0, .slice b0 y0.length d0])] → (W.cell? ⟨X0, 0, none⟩ = some (.slice (some ⟨g4, 0, none⟩) x0.length x0.length) ∧ W.cell? ⟨X0, 1, none⟩ = some (.slice (some ⟨g4', 0, none⟩) y0.length y0.length) ∧ W.cell? ⟨w.heap.size, 0, none⟩ = some (.slice a0 x0.length c0) ∧ W.cell? ⟨w.heap.size, 1, none⟩ = some (.slice b0 y0.length d0)) := fun W h => ⟨(h.box 0).c 0, (h.box 0).c 1, (h.box 1).c 0, (h.box 1).c 1⟩
    
    go_wp2_with fail
    go_region_held3 (fun w' => w'.cell? ⟨X0, 0, none⟩ = some (.slice (some ⟨g4, 0, none⟩) x0.length x0.length) ∧ w'.cell? ⟨X0, 1, none⟩ = some (.slice (some ⟨g4', 0, none⟩) y0.length y0.length) ∧ w'.cell? ⟨w.heap.size, 0, none⟩ = some (.slice a0 x0.length c0) ∧ w'.cell? ⟨w.heap.size, 1, none⟩ = some (.slice b0 y0.length d0))
       (first | (with_reducible exact HC _ HT) | (with_reducible exact HC _ HT.drew))
       (first | (go_at_call 18; refine (toProg_rd a0 b0 c0 d0 x0 y0 _ (by first | with_reducible exact HI _ HT | with_reducible exact HI _ HT.drew) HLEN.out.1 HLEN.out.2.1 HLEN.out.2.2).mono ?_; rintro e w1 ⟨g6, g6', rfl, hb1, hm6⟩; (first | (have HX := HX.later hb1) | (have HX := HX.drew.later hb1)); (first | (have HT := HT.later hb1) | (have HT := HT.drew.later hb1))) | (go_at_call 20; refine (eqProg_same _ _ _ _ _ _ _ _ x0 y0 _ (by first | with_reducible exact HX | with_reducible exact HX.drew) (by first | with_reducible exact hm6 | with_reducible exact hm6.drew) HLEN.out.1 HLEN.out.2.1 HLEN.out.2.2).mono ?_; rintro e w1 ⟨rfl, hb1⟩; (first | (have HT := HT.later hb1) | (have HT := HT.drew.later hb1))))
    clear HC HX
    go_wp2
    go_ret
    exact ⟨rfl, HT.below⟩
  · clear hfit
    go_wp2_with fail
    go_ret
    exact ⟨rfl, HT.below⟩

set_option maxRecDepth 100000 in
theorem lifted (os : Os) (started : os.Started) (H : Type) (enc : TypeId × Value → H) :
    ReturnsInHanded {} Try.checked os 9 .any (Rows.fnExactUniformCountSpec.pre6 enc Try.prog Try.f9 Rows.fnExactUniformCountRow.domain false) (Rows.fnExactUniformCountSpec.post enc Try.prog Try.f9 false true false false) := by
  refine returnsInHanded_of_change (C := Try.checked) own started (by kernel_rfl) Try.func9
    (ChangeSpec.witness6 (enc := enc) (C := Try.checked) false ⟨#[], #[.agg #[.slice none 0 0, .slice none 0 0]], []⟩ 8 (by kernel_rfl) (by kernel_rfl) (by kernel_rfl) (by kernel_rfl)) ?_
  intro W base args ds gs before hval0 hW hcnd _
  have hval : ∀ (j : Nat) t v, Try.f9.params[j]? = some t → args[j]? = some v → Value.okWide Try.prog W .any base t v := hval0
  have hW' := hW
  obtain ⟨p, q, hA0, hV, rfl, hfz, hnd⟩ := hW
  have hA : DataW.TrodAll enc Try.prog W 0 (fun _ => true) true Try.f9.params.toList args.toList ds p := hA0
  rw [Try.params9] at hA hval
  obtain ⟨v0, vs0, d0, ds0, p0, q0, hargs, rfl, rfl, h0, r1000⟩ := trodAll_cons hA
  obtain ⟨rfl, rfl, rfl⟩ := trodAll_nil r1000
  obtain rfl : args = #[v0] := by cases args; simp_all
  obtain ⟨rfl, rfl⟩ := trodVars_none hV
  have k0 := h0
  have lt0 : ∀ x ∈ p0, x.block < W.heap.size := by obtain ⟨m, hm⟩ := k0; exact DataW.trod_lt m _ _ _ hm
  have hv0 := hval 0 29 v0 rfl rfl
  obtain ⟨s0, t0, n0, X0, Y0, rfl, hs0, ht0⟩ := open_pairP (P := Try.prog) (t := 29) Try.underlying29 (by kernel_rfl) rfl rfl (by kernel_rfl) (by kernel_rfl) hv0 h0
  obtain ⟨a0, c0, x0, rfl, r0, m0, v0_⟩ := nodes_of Try.underlying26 (by kernel_rfl) (fun _ _ _ _ _ _ _ _ _ hx => node_of Try.underlying67 (by kernel_rfl) rfl rfl rfl rfl (by kernel_rfl) (by kernel_rfl) (by kernel_rfl) (by kernel_rfl) Try.underlying3 Try.underlying9 Try.underlying3 Try.underlying49 Try.underlying3 (by kernel_rfl) hx) hs0
  obtain ⟨b0, d0, y0, rfl, q0_, o0, u0_⟩ := kinds_of as2 asg asg_as2 Try.underlying27 (by kernel_rfl) flatS69_ (by decide) ht0
  clear hA0
  refine (walk W a0 b0 c0 d0 x0 y0 ⟨r0, q0_⟩ ⟨m0, o0⟩ v0_ (fun z hz => asOk_of (u0_ z hz))).mono fun e W' ⟨he, bel⟩ => ?_
  subst he
  exact ⟨_, rfl, _, _, _, [], _, [], hW', trodAll_mk1 (shut_bool Try.underlying4 _), (trodAll_cons_mk (Below.trod laidOut (by kernel_rfl) (of_decide_eq_true (by kernel_rfl)) k0 bel lt0) trodAll_mk0), rfl, bel.frame _, fun h => by cases h⟩

theorem proved : Rows.FnExactUniformCountSaid :=
  OpenClaim.holds_of_wide 9 Try.f9 rfl rfl rfl rfl rfl rfl rfl ⟨rfl, rfl, rfl, rfl, rfl⟩ rfl rfl rfl rfl rfl (by kernel_rfl) Try.func9 (by kernel_rfl)
    (of_decide_eq_true (by kernel_rfl)) (by unfold Func.isWrapper; first | (rw [if_pos (by decide +kernel)]; kernel_rfl) | (rw [if_neg (by decide +kernel)]; exact ⟨rfl, rfl⟩))
    (fun os started H enc _ => lifted os started H enc)
#print axioms proved
end Go.Proofs.Ytpcdlehicdepaaa.fnExactUniformCount
