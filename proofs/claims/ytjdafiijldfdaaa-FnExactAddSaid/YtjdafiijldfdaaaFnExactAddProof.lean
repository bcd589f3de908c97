/-
  Proved: the law FnExactAdd returns true for every input and its arguments read behind the call as they read before. Conditions: none of our own; those of the given row alone.
-/
import Derived.Test.YtjdafiijldfdaaaRows
import Derived.WalkKit
import Derived.ProofKit
import Derived.OpenShut
import Derived.ShutString
import Derived.SliceStrings
import Derived.ChangeOld
import Derived.Below
import Derived.Test.YtjdafiijldfdaaaFlat
import Derived.Test.YtjdafiijldfdaaaVbox
import Derived.Test.YtjdafiijldfdaaaVec
import Derived.Test.YtjdafiijldfdaaaVAdd
import Derived.Test.YtjdafiijldfdaaaVlaw
import Derived.Deep.RegionHeld3
import Derived.Deep.DeepCutAuto
import Derived.Handy
import Derived.Test.YtjdafiijldfdaaaMem
namespace Go.Proofs.Ytjdafiijldfdaaa.fnExactAdd
open Go.ChangeShapes Go.WideShapes Go.ChangeAt Go.RowKit
open Go.ChangeMaps (open_string shut_string)
set_option linter.unusedVariables false

theorem own : ownKnob Try.prog.godebug = none := by kernel_rfl
theorem laidOut : laidOutB Try.prog = true := by kernel_rfl
theorem flat3 : FlatI Try.prog 3 (Try.prog.cellsOf 3) := by rw [show Try.prog.cellsOf 3 = 1 by kernel_rfl]; exact flat1 Try.underlying3
theorem cells23 : Try.prog.cellsOf 23 = 3 := by kernel_rfl
theorem flat23_ : FlatI Try.prog 23 3 := flatS Try.underlying23 cells23 (by exact ⟨rfl, flat3, ⟨rfl, flat3, ⟨rfl, flat3, by unfold FlatFs; kernel_rfl⟩⟩⟩)
set_option maxHeartbeats 4000000 in
theorem walk (w : World) (a0_0 a0_1 a0_2 : Int) (w0_0 : (Lit.int .i64 a0_0).wf = true) (w0_1 : (Lit.int .i64 a0_1).wf = true) (w0_2 : (Lit.int .i64 a0_2).wf = true) (a1_0 a1_1 a1_2 : Int) (w1_0 : (Lit.int .i64 a1_0).wf = true) (w1_1 : (Lit.int .i64 a1_1).wf = true) (w1_2 : (Lit.int .i64 a1_2).wf = true) :
    Calls Try.prog 4 #[.agg #[.int .i64 a0_0, .int .i64 a0_1, .int .i64 a0_2], .agg #[.int .i64 a1_0, .int .i64 a1_1, .int .i64 a1_2]] w fun e w' => e = .returned (.bool true) ∧ Below w.heap.size w w' := by
  have HT := Two.start w a0_0 a0_1 a0_2 a1_0 a1_1 a1_2 23 23
  go_enter Try.func4, Try.ntmps4
  go_upto_region 1 with fail
  go_cut [5] (fun s wx => ∃ g : Nat, s = .pointer (some ⟨g, 0, none⟩) ∧ Vbox wx g (cc (cc a0_0 + cc a1_0)) (cc (cc a0_1 + cc a1_1)) (cc (cc a0_2 + cc a1_2)) ∧ Two w wx a0_0 a0_1 a0_2 a1_0 a1_1 a1_2)
  case first =>
    go_region_held3 (fun w' => w'.cell? ⟨w.heap.size, 0, none⟩ = some (.int .i64 a0_0) ∧ w'.cell? ⟨w.heap.size, 1, none⟩ = some (.int .i64 a0_1) ∧ w'.cell? ⟨w.heap.size, 2, none⟩ = some (.int .i64 a0_2) ∧ w'.cell? ⟨w.heap.size + 1, 0, none⟩ = some (.int .i64 a1_0) ∧ w'.cell? ⟨w.heap.size + 1, 1, none⟩ = some (.int .i64 a1_1) ∧ w'.cell? ⟨w.heap.size + 1, 2, none⟩ = some (.int .i64 a1_2))
          (first | (with_reducible exact HT.cells) | (with_reducible exact HT.drew.cells) | (with_reducible exact (HT.alloc _).cells) | (with_reducible exact (HT.alloc _).drew.cells) | (with_reducible exact (HT.set3 (by omega) _ _ _).cells))
          (first | (go_at_call 13; refine (toVec_any _ _ _ _).mono ?_; rintro e w1 ⟨rfl, hb1⟩; (first | (have HT := HT.later hb1) | (have HT := HT.drew.later hb1) | (have HT := (HT.alloc _).later hb1) | (have HT := (HT.alloc _).drew.later hb1)); (first | (have HG := (Vbox.new _ 0 0 0 25).later hb1) | (have HG := (Vbox.new _ 0 0 0 25).drew.later hb1) | (have HG := HG.later hb1) | skip); (try simp only [World.size_alloc] at HG); (try (obtain ⟨hg0, hg1, hg2, gg0, gg1, gg2⟩ := id HG)); have hz := HT.2.2.2) | (go_at_call 15; refine (sAdd_any _ _ _ _ _ _ _).mono ?_; rintro e w1 ⟨rfl, hb1⟩; (first | (have HT := HT.later hb1) | (have HT := HT.drew.later hb1) | (have HT := (HT.alloc _).later hb1) | (have HT := (HT.alloc _).drew.later hb1)); (first | (have HG := (Vbox.new _ 0 0 0 25).later hb1) | (have HG := (Vbox.new _ 0 0 0 25).drew.later hb1) | (have HG := HG.later hb1) | skip); (try simp only [World.size_alloc] at HG); (try (obtain ⟨hg0, hg1, hg2, gg0, gg1, gg2⟩ := id HG)); have hz := HT.2.2.2) )
    all_goals (go_wp2_with fail; go_meet)
    all_goals (first | exact ⟨_, rfl, Vbox.new _ _ _ _ _, HT.alloc _⟩ | exact ⟨_, rfl, HG.put _ _ _, HT.set3 (by omega) _ _ _⟩)
  case rest =>
    obtain ⟨g, rfl, HV, HT⟩ := hcut
    go_upto_region 2 with fail
    go_cut [6] (fun s wx => ∃ h : Nat, s = .pointer (some ⟨h, 0, none⟩) ∧ Vbox wx h (cc (cc a0_0 + cc a1_0)) (cc (cc a0_1 + cc a1_1)) (cc (cc a0_2 + cc a1_2)) ∧ Vbox wx g (cc (cc a0_0 + cc a1_0)) (cc (cc a0_1 + cc a1_1)) (cc (cc a0_2 + cc a1_2)) ∧ Two w wx a0_0 a0_1 a0_2 a1_0 a1_1 a1_2)
    case first =>
      have hgl := HV.lt
      have hz := HT.2.2.2
      go_region_held3 (fun w' => w'.cell? ⟨w.heap.size, 0, none⟩ = some (.int .i64 a0_0) ∧ w'.cell? ⟨w.heap.size, 1, none⟩ = some (.int .i64 a0_1) ∧ w'.cell? ⟨w.heap.size, 2, none⟩ = some (.int .i64 a0_2) ∧ w'.cell? ⟨w.heap.size + 1, 0, none⟩ = some (.int .i64 a1_0) ∧ w'.cell? ⟨w.heap.size + 1, 1, none⟩ = some (.int .i64 a1_1) ∧ w'.cell? ⟨w.heap.size + 1, 2, none⟩ = some (.int .i64 a1_2))
          (first | (with_reducible exact HT.cells) | (with_reducible exact HT.drew.cells) | (with_reducible exact (HT.alloc _).cells) | (with_reducible exact (HT.alloc _).drew.cells) | (with_reducible exact (HT.set3 (by omega) _ _ _).cells))
          (first | (go_at_call 13; refine (toVec_any _ _ _ _).mono ?_; rintro e w1 ⟨rfl, hb1⟩; (first | (have HT := HT.later hb1) | (have HT := HT.drew.later hb1) | (have HT := (HT.alloc _).later hb1) | (have HT := (HT.alloc _).drew.later hb1)); (first | (have HG := (Vbox.new _ 0 0 0 25).later hb1) | (have HG := (Vbox.new _ 0 0 0 25).drew.later hb1) | (have HG := HG.later hb1) | skip); (try simp only [World.size_alloc] at HG); (try (obtain ⟨hg0, hg1, hg2, gg0, gg1, gg2⟩ := id HG)); have hz := HT.2.2.2; (first | (have HV := HV.later hb1) | (have HV := HV.drew.later hb1) | (have HV := (HV.alloc _).later hb1) | (have HV := (HV.alloc _).drew.later hb1)); have hgl := HV.lt) | (go_at_call 16; refine (add_any _ _ _ _ _ _ _).mono ?_; rintro e w1 ⟨rfl, hb1⟩; (first | (have HT := HT.later hb1) | (have HT := HT.drew.later hb1) | (have HT := (HT.alloc _).later hb1) | (have HT := (HT.alloc _).drew.later hb1)); (first | (have HG := (Vbox.new _ 0 0 0 25).later hb1) | (have HG := (Vbox.new _ 0 0 0 25).drew.later hb1) | (have HG := HG.later hb1) | skip); (try simp only [World.size_alloc] at HG); (try (obtain ⟨hg0, hg1, hg2, gg0, gg1, gg2⟩ := id HG)); have hz := HT.2.2.2; (first | (have HV := HV.later hb1) | (have HV := HV.drew.later hb1) | (have HV := (HV.alloc _).later hb1) | (have HV := (HV.alloc _).drew.later hb1)); have hgl := HV.lt) )
      all_goals (go_wp2_with fail; go_meet)
      all_goals (first | exact ⟨_, rfl, Vbox.new _ _ _ _ _, HV.alloc _, HT.alloc _⟩ | exact ⟨_, rfl, HG.put _ _ _, HV.far3 (by omega) _ _ _, HT.set3 (by omega) _ _ _⟩)
    case rest =>
      obtain ⟨h, rfl, HU, HV, HT⟩ := hcut
      obtain ⟨c0, c1, c2, _, _, _⟩ := id HU
      obtain ⟨d0, d1, d2, _, _, _⟩ := id HV
      go_wp2_with fail
      refine (eqVec_same _ _ _ _).mono ?_
      rintro e w1 ⟨rfl, hb1⟩
      have HT := HT.later hb1
      clear c0 c1 c2 d0 d1 d2 hb1 HU HV
      go_wp2_with fail
      go_ret
      exact ⟨rfl, HT.2.2.1⟩

set_option maxRecDepth 100000 in
theorem lifted (os : Os) (started : os.Started) (H : Type) (enc : TypeId × Value → H) :
    ReturnsInHanded {} Try.checked os 4 .any (Rows.fnExactAddSpec.pre6 enc Try.prog Try.f4 Rows.fnExactAddRow.domain false) (Rows.fnExactAddSpec.post enc Try.prog Try.f4 false true false false) := by
  refine returnsInHanded_of_change (C := Try.checked) own started (by kernel_rfl) Try.func4
    (ChangeSpec.witness6 (enc := enc) (C := Try.checked) false ⟨#[], #[.agg #[.int .i64 0, .int .i64 0, .int .i64 0], .agg #[.int .i64 0, .int .i64 0, .int .i64 0]], []⟩ 8 (by kernel_rfl) (by kernel_rfl) (by kernel_rfl) (by kernel_rfl)) ?_
  intro W base args ds gs before hval0 hW hcnd _
  have hval : ∀ (j : Nat) t v, Try.f4.params[j]? = some t → args[j]? = some v → Value.okWide Try.prog W .any base t v := hval0
  have hW' := hW
  obtain ⟨p, q, hA0, hV, rfl, hfz, hnd⟩ := hW
  have hA : DataW.TrodAll enc Try.prog W 0 (fun _ => true) true Try.f4.params.toList args.toList ds p := hA0
  rw [Try.params4] at hA hval
  obtain ⟨v0, vs0, d0, ds0, p0, q0, hargs, rfl, rfl, h0, r1000⟩ := trodAll_cons hA
  obtain ⟨v1, vs1, d1, ds1, p1, q1, rfl, rfl, rfl, h1, r1001⟩ := trodAll_cons r1000
  obtain ⟨rfl, rfl, rfl⟩ := trodAll_nil r1001
  obtain rfl : args = #[v0, v1] := by cases args; simp_all
  obtain ⟨rfl, rfl⟩ := trodVars_none hV
  have k0 := h0
  have lt0 : ∀ x ∈ p0, x.block < W.heap.size := by obtain ⟨m, hm⟩ := k0; exact DataW.trod_lt m _ _ _ hm
  obtain ⟨zs0, hzs0, rfl, wzs0⟩ := open_flat Try.underlying23 flat23_ (hval 0 23 v0 rfl rfl) h0
  obtain ⟨a0_0, a0_1, a0_2, rfl⟩ := list3 hzs0
  have k1 := h1
  have lt1 : ∀ x ∈ p1, x.block < W.heap.size := by obtain ⟨m, hm⟩ := k1; exact DataW.trod_lt m _ _ _ hm
  obtain ⟨zs1, hzs1, rfl, wzs1⟩ := open_flat Try.underlying23 flat23_ (hval 1 23 v1 rfl rfl) h1
  obtain ⟨a1_0, a1_1, a1_2, rfl⟩ := list3 hzs1
  clear hA0
  refine (walk W a0_0 a0_1 a0_2 (wzs0 _ (by simp)) (wzs0 _ (by simp)) (wzs0 _ (by simp)) a1_0 a1_1 a1_2 (wzs1 _ (by simp)) (wzs1 _ (by simp)) (wzs1 _ (by simp))).mono fun e W' ⟨he, bel⟩ => ?_
  subst he
  exact ⟨_, rfl, _, _, _, [], _, [], hW', trodAll_mk1 (shut_bool Try.underlying4 _), (trodAll_cons_mk (Below.trod laidOut (by kernel_rfl) (of_decide_eq_true (by kernel_rfl)) k0 bel lt0) (trodAll_cons_mk (Below.trod laidOut (by kernel_rfl) (of_decide_eq_true (by kernel_rfl)) k1 bel lt1) trodAll_mk0)), rfl, bel.frame _, fun h => by cases h⟩

theorem proved : Rows.FnExactAddSaid :=
  OpenClaim.holds_of_wide 4 Try.f4 rfl rfl rfl rfl rfl rfl rfl ⟨rfl, rfl, rfl, rfl, rfl⟩ rfl rfl rfl rfl rfl (by kernel_rfl) Try.func4 (by kernel_rfl)
    (of_decide_eq_true (by kernel_rfl)) (by unfold Func.isWrapper; first | (rw [if_pos (by decide +kernel)]; kernel_rfl) | (rw [if_neg (by decide +kernel)]; exact ⟨rfl, rfl⟩))
    (fun os started H enc _ => lifted os started H enc)
#print axioms proved
end Go.Proofs.Ytjdafiijldfdaaa.fnExactAdd
