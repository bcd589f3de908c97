/-
  Proved: the law FnCracks returns true for every input and its arguments read behind the call as they read before. Conditions: none of our own; those of the given row alone.
-/
import Derived.Test.YtolinlcihddkoabRows
import Derived.WalkKit
import Derived.ProofKit
import Derived.OpenShut
import Derived.ShutString
import Derived.SliceStrings
import Derived.ChangeOld
import Derived.Below
import Derived.Test.YtolinlcihddkoabMem
import Derived.Test.YtolinlcihddkoabInts
import Derived.Test.YtolinlcihddkoabIntS
import Derived.Test.YtolinlcihddkoabCur
import Derived.Test.YtolinlcihddkoabFlat
import Derived.Test.YtolinlcihddkoabVbox
import Derived.Test.YtolinlcihddkoabVec
import Derived.Test.YtolinlcihddkoabHeld
import Derived.Test.YtolinlcihddkoabArr
import Derived.Test.YtolinlcihddkoabTr
import Derived.Test.YtolinlcihddkoabRowC
import Derived.Test.YtolinlcihddkoabPat
import Derived.Test.YtolinlcihddkoabPVal
import Derived.Test.YtolinlcihddkoabGrid
import Derived.Test.YtolinlcihddkoabPut
import Derived.Test.YtolinlcihddkoabPEv
import Derived.Test.YtolinlcihddkoabSub
import Derived.Test.YtolinlcihddkoabVDraw
import Derived.Test.YtolinlcihddkoabPDraw
import Derived.Test.YtolinlcihddkoabCDrP
import Derived.Test.YtolinlcihddkoabKV
import Derived.Test.YtolinlcihddkoabCam
import Derived.Test.YtolinlcihddkoabCPrj
import Derived.Test.YtolinlcihddkoabDv
import Derived.Test.YtolinlcihddkoabDp
import Derived.Test.YtolinlcihddkoabDc
import Derived.Test.YtolinlcihddkoabCrk
import Derived.Handy
import Derived.Deep.RegionHeld3
import Derived.Deep.DeepCutAuto
import Derived.BigQuiet
import Derived.Deep.QuietTactic
namespace Go.Proofs.Ytolinlcihddkoab.fnCracks
open Go.ChangeShapes Go.WideShapes Go.ChangeAt Go.RowKit
open Go.ChangeMaps (open_string shut_string)
set_option linter.unusedVariables false

theorem own : ownKnob Try.prog.godebug = none := by kernel_rfl
theorem laidOut : laidOutB Try.prog = true := by kernel_rfl
set_option maxRecDepth 100000 in
set_option maxHeartbeats 8000000 in
theorem walk (w : World) (a0 : Option Addr) (c0 : Nat) (x0 : List Int) (r0 : Row (Value.int .u8) w w.heap.size a0 x0) (m0 : x0.length ≤ maxLen) (w0 : ∀ x ∈ x0, (Lit.int .u8 x).wf = true) :
    Calls Try.prog 3 #[.slice a0 x0.length c0] w fun e w' => e = .returned (.bool true) ∧ Below w.heap.size w w' := by
  have H8 : Hid (∀ x ∈ x0, 0 ≤ x ∧ x ≤ 255) := Lib.hid (fun x hx => bounds_u8 (w0 x hx))
  have HR : Hid (Row U8 w w.heap.size a0 x0) := Lib.hid r0
  clear w0 r0
  by_cases hbig : x0.length ≤ 1048576
  case neg =>
    go_enter Try.func3, Try.ntmps3
    go_wp2_with fail
    go_ret
    exact ⟨rfl, Below.refl _ _⟩
  case pos =>
    go_enter Try.func3, Try.ntmps3
    go_wp2_with fail
    refine (makeCamera_any _ _ x0 _ HR.out H8.out hbig).mono ?_
    rintro e w1 ⟨q0, q1, q2, q3, q4, q5, q6, hG, rfl, hb1⟩
    have HT := ((Held.nil w).later hb1).new #[.int .i64 q0, .int .i64 q1, .int .i64 q2, .int .i64 q3, .bool q4, .int .i64 q5, .int .i64 q6] 24
    have HR1 := Lib.hid (HR.out.later HT.below)
    clear hb1 hG
    go_wp2_with fail
    refine (makePatch_any _ _ x0 _ _ HR1.out H8.out hbig (by omega) (by omega)).mono ?_
    rintro e w2 ⟨s0, s1, s2, s3, s4, s5, s6, s7, s8, s9, s10, s11, hSA, rfl, hb2⟩
    have HT := (HT.later hb2).new #[.int .i64 s0, .int .i64 s1, .int .i64 s2, .int .i64 s3, .int .i64 s4, .int .i64 s5, .int .i64 s6, .int .i64 s7, .int .i64 s8, .int .i64 s9, .int .i64 s10, .int .i64 s11] 30
    have HR2 := Lib.hid (HR.out.later HT.below)
    have HSA := Lib.hid hSA
    clear hb2 hSA HR1
    go_wp2_with fail
    refine (makePatch_any _ _ x0 _ _ HR2.out H8.out hbig (by omega) (by omega)).mono ?_
    rintro e w3 ⟨z0, z1, z2, z3, z4, z5, z6, z7, z8, z9, z10, z11, hSB, rfl, hb3⟩
    have HT := HT.later hb3
    have hkb := HT.size
    have hza := (HT.box 0).lt
    have hzc := (HT.box 1).lt
    have HT := HT.new #[.int .i64 z0, .int .i64 z1, .int .i64 z2, .int .i64 z3, .int .i64 z4, .int .i64 z5, .int .i64 z6, .int .i64 z7, .int .i64 z8, .int .i64 z9, .int .i64 z10, .int .i64 z11] 30
    clear hb3 hSB HR2
    go_upto_region 6 with fail
    obtain ⟨W3, hW3⟩ : ∃ X, X = w3.alloc (.cells #[.int .i64 z0, .int .i64 z1, .int .i64 z2, .int .i64 z3, .int .i64 z4, .int .i64 z5, .int .i64 z6, .int .i64 z7, .int .i64 z8, .int .i64 z9, .int .i64 z10, .int .i64 z11] 30) := ⟨_, rfl⟩
    rw [← hW3] at HT ⊢
    clear hW3
    generalize w3.heap.size = kb at HT hkb hza hzc ⊢
    generalize w2.heap.size = ka at HT hza ⊢
    generalize w1.heap.size = kc at HT hzc ⊢
    have HT : Held w W3 [(kb, [.int .i64 z0, .int .i64 z1, .int .i64 z2, .int .i64 z3, .int .i64 z4, .int .i64 z5, .int .i64 z6, .int .i64 z7, .int .i64 z8, .int .i64 z9, .int .i64 z10, .int .i64 z11]), (ka, [.int .i64 s0, .int .i64 s1, .int .i64 s2, .int .i64 s3, .int .i64 s4, .int .i64 s5, .int .i64 s6, .int .i64 s7, .int .i64 s8, .int .i64 s9, .int .i64 s10, .int .i64 s11]), (kc, [.int .i64 q0, .int .i64 q1, .int .i64 q2, .int .i64 q3, .bool q4, .int .i64 q5, .int .i64 q6])] := HT
    have hne : ∀ p ∈ ([(ka, [.int .i64 s0, .int .i64 s1, .int .i64 s2, .int .i64 s3, .int .i64 s4, .int .i64 s5, .int .i64 s6, .int .i64 s7, .int .i64 s8, .int .i64 s9, .int .i64 s10, .int .i64 s11]), (kc, [.int .i64 q0, .int .i64 q1, .int .i64 q2, .int .i64 q3, .bool q4, .int .i64 q5, .int .i64 q6])] : List (Nat × List Value)), p.1 ≠ kb := by
      intro p hp
      simp only [List.mem_cons, List.not_mem_nil, or_false] at hp
      rcases hp with rfl | rfl <;> (dsimp only; omega)
    have c0 := (HT.box 1).c 3
    have c1 := (HT.box 1).c 4
    have c2 := (HT.box 1).c 5
    have d0 := (HT.box 0).c 0
    have d1 := (HT.box 0).c 1
    have d2 := (HT.box 0).c 2
    have f0 := (HT.box 0).f 0
    have f1 := (HT.box 0).f 1
    have f2 := (HT.box 0).f 2
    have HP := (((HT.put hkb hne 0 (.int .i64 s3)).put hkb hne 1 (.int .i64 s4)).put hkb hne 2 (.int .i64 s5))
    go_upto_region 7 with fail
    clear c0 c1 c2 d0 d1 d2 f0 f1 f2 HT
    obtain ⟨W4, hW⟩ : ∃ W, W = (((W3.setCell ⟨kb, 0, none⟩ (.int .i64 s3)).setCell ⟨kb, 1, none⟩ (.int .i64 s4)).setCell ⟨kb, 2, none⟩ (.int .i64 s5)) := ⟨_, rfl⟩
    rw [← hW] at HP ⊢
    clear hW
    have HT : Held w W4 [(kb, [.int .i64 s3, .int .i64 s4, .int .i64 s5, .int .i64 z3, .int .i64 z4, .int .i64 z5, .int .i64 z6, .int .i64 z7, .int .i64 z8, .int .i64 z9, .int .i64 z10, .int .i64 z11]), (ka, [.int .i64 s0, .int .i64 s1, .int .i64 s2, .int .i64 s3, .int .i64 s4, .int .i64 s5, .int .i64 s6, .int .i64 s7, .int .i64 s8, .int .i64 s9, .int .i64 s10, .int .i64 s11]), (kc, [.int .i64 q0, .int .i64 q1, .int .i64 q2, .int .i64 q3, .bool q4, .int .i64 q5, .int .i64 q6])] := HP
    clear HP
    have c0 := (HT.box 1).c 9
    have c1 := (HT.box 1).c 10
    have c2 := (HT.box 1).c 11
    have d0 := (HT.box 0).c 6
    have d1 := (HT.box 0).c 7
    have d2 := (HT.box 0).c 8
    have f0 := (HT.box 0).f 6
    have f1 := (HT.box 0).f 7
    have f2 := (HT.box 0).f 8
    have HP := (((HT.put hkb hne 6 (.int .i64 s9)).put hkb hne 7 (.int .i64 s10)).put hkb hne 8 (.int .i64 s11))
    go_upto_region 8 with fail
    clear c0 c1 c2 d0 d1 d2 f0 f1 f2 HT
    obtain ⟨W5, hW⟩ : ∃ W, W = (((W4.setCell ⟨kb, 6, none⟩ (.int .i64 s9)).setCell ⟨kb, 7, none⟩ (.int .i64 s10)).setCell ⟨kb, 8, none⟩ (.int .i64 s11)) := ⟨_, rfl⟩
    rw [← hW] at HP ⊢
    clear hW
    have HT : Held w W5 [(kb, [.int .i64 s3, .int .i64 s4, .int .i64 s5, .int .i64 z3, .int .i64 z4, .int .i64 z5, .int .i64 s9, .int .i64 s10, .int .i64 s11, .int .i64 z9, .int .i64 z10, .int .i64 z11]), (ka, [.int .i64 s0, .int .i64 s1, .int .i64 s2, .int .i64 s3, .int .i64 s4, .int .i64 s5, .int .i64 s6, .int .i64 s7, .int .i64 s8, .int .i64 s9, .int .i64 s10, .int .i64 s11]), (kc, [.int .i64 q0, .int .i64 q1, .int .i64 q2, .int .i64 q3, .bool q4, .int .i64 q5, .int .i64 q6])] := HP
    clear HP
    clear hne hkb hza hzc
    have HTC := Lib.hid HT
    clear HT
    go_cut [6] (fun xi wx => ∃ n : Nat, (n = 1 ∨ n = 2 ∨ n = 4 ∨ n = 8) ∧ xi = .int .i64 ((n : Nat) : Int) ∧ Held w wx [(kb, [.int .i64 s3, .int .i64 s4, .int .i64 s5, .int .i64 z3, .int .i64 z4, .int .i64 z5, .int .i64 s9, .int .i64 s10, .int .i64 s11, .int .i64 z9, .int .i64 z10, .int .i64 z11]), (ka, [.int .i64 s0, .int .i64 s1, .int .i64 s2, .int .i64 s3, .int .i64 s4, .int .i64 s5, .int .i64 s6, .int .i64 s7, .int .i64 s8, .int .i64 s9, .int .i64 s10, .int .i64 s11]), (kc, [.int .i64 q0, .int .i64 q1, .int .i64 q2, .int .i64 q3, .bool q4, .int .i64 q5, .int .i64 q6])])
    case first =>
      go_wp2_with fail
      have HT := HTC.out.new #[.int .i64 1, .int .i64 2, .int .i64 4, .int .i64 8] 3
      have HR3 := Lib.hid (HR.out.later HT.below)
      refine (makeNum_any _ _ x0 _ _ HR3.out H8.out hbig (by omega) (by omega)).mono ?_
      rintro e w3 ⟨m1, m1l, m1h, rfl, hb3⟩
      have HT := HT.later hb3
      have b0 := (HT.box 0).c 0
      have b1 := (HT.box 0).c 1
      have b2 := (HT.box 0).c 2
      have b3 := (HT.box 0).c 3
      have hm : m1.tmod 4 = 0 ∨ m1.tmod 4 = 1 ∨ m1.tmod 4 = 2 ∨ m1.tmod 4 = 3 := by rw [Int.tmod_eq_emod_of_nonneg m1l]; omega
      have HT := HT.tail
      rcases hm with hm | hm | hm | hm
      · have hm2 : m1 % 4 = 0 := by rw [← Int.tmod_eq_emod_of_nonneg m1l]; exact hm
        clear m1l m1h hb3 HTC HR3
        go_wp2_with fail
        go_meet
        exact ⟨1, .inl rfl, rfl, HT⟩
      · have hm2 : m1 % 4 = 1 := by rw [← Int.tmod_eq_emod_of_nonneg m1l]; exact hm
        clear m1l m1h hb3 HTC HR3
        go_wp2_with fail
        go_meet
        exact ⟨2, .inr (.inl rfl), rfl, HT⟩
      · have hm2 : m1 % 4 = 2 := by rw [← Int.tmod_eq_emod_of_nonneg m1l]; exact hm
        clear m1l m1h hb3 HTC HR3
        go_wp2_with fail
        go_meet
        exact ⟨4, .inr (.inr (.inl rfl)), rfl, HT⟩
      · have hm2 : m1 % 4 = 3 := by rw [← Int.tmod_eq_emod_of_nonneg m1l]; exact hm
        clear m1l m1h hb3 HTC HR3
        go_wp2_with fail
        go_meet
        exact ⟨8, .inr (.inr (.inr rfl)), rfl, HT⟩
    case rest =>
      obtain ⟨n, hn, rfl, HT⟩ := hcut
      have bn : 1 ≤ n ∧ n ≤ 8 := by omega
      have bn' : 1 ≤ (n : Int) ∧ (n : Int) ≤ 8 := by omega
      have hjo : Joined (⟨s0, s1, s2, s3, s4, s5, s6, s7, s8, s9, s10, s11⟩ : PV) (⟨s3, s4, s5, z3, z4, z5, s9, s10, s11, z9, z10, z11⟩ : PV) := ⟨rfl, rfl, rfl, rfl, rfl, rfl⟩
      have HJ := Lib.hid hjo
      have HT0 := Lib.hid HT
      clear HTC hn hjo HR H8 HT
      go_wp2_with fail
      go_loopw [7] (fun xi wr => ∃ k : Nat, k ≤ n + 1 ∧ xi = .int .i64 k ∧ Held w wr [(kb, [.int .i64 s3, .int .i64 s4, .int .i64 s5, .int .i64 z3, .int .i64 z4, .int .i64 z5, .int .i64 s9, .int .i64 s10, .int .i64 s11, .int .i64 z9, .int .i64 z10, .int .i64 z11]), (ka, [.int .i64 s0, .int .i64 s1, .int .i64 s2, .int .i64 s3, .int .i64 s4, .int .i64 s5, .int .i64 s6, .int .i64 s7, .int .i64 s8, .int .i64 s9, .int .i64 s10, .int .i64 s11]), (kc, [.int .i64 q0, .int .i64 q1, .int .i64 q2, .int .i64 q3, .bool q4, .int .i64 q5, .int .i64 q6])]) (fun xi _ => n + 1 - (intOf xi).toNat)
      case atStart => exact ⟨0, Nat.zero_le _, rfl, HT0.out⟩
      case round =>
        clear HT0
        obtain ⟨k, hk, rfl, HT⟩ := hrel
        by_cases hlt : k < n + 1
        · have hlt' : (k : Int) ≤ (n : Int) := by omega
          have hge' : (0 : Int) ≤ (k : Int) := by omega
          obtain ⟨⟨v0, v1, v2⟩, hv⟩ : ∃ v, v = PV.at (⟨s0, s1, s2, s3, s4, s5, s6, s7, s8, s9, s10, s11⟩ : PV) (n : Int) (k : Int) (n : Int) := ⟨_, rfl⟩
          have hv2 : PV.at (⟨s3, s4, s5, z3, z4, z5, s9, s10, s11, z9, z10, z11⟩ : PV) 0 (k : Int) (n : Int) = (v0, v1, v2) := by rw [hv, joined_at HJ.out ⟨by omega, by omega⟩ ⟨by omega, by omega⟩]
          have G1 : Hid (∀ w : World, Calls Try.prog 7 #[tr s0 s1 s2 s3 s4 s5 s6 s7 s8 s9 s10 s11, .int .i64 (n : Int), .int .i64 (k : Int), .int .i64 (n : Int)] w (VecOut v0 v1 v2 w)) := Lib.hid (fun w => by have h := evalP (⟨s0, s1, s2, s3, s4, s5, s6, s7, s8, s9, s10, s11⟩ : PV) (n : Int) (k : Int) (n : Int) w; rw [← hv] at h; exact h)
          have G2 : Hid (∀ w : World, Calls Try.prog 7 #[tr s3 s4 s5 z3 z4 z5 s9 s10 s11 z9 z10 z11, .int .i64 0, .int .i64 (k : Int), .int .i64 (n : Int)] w (VecOut v0 v1 v2 w)) := Lib.hid (fun w => by have h := evalP (⟨s3, s4, s5, z3, z4, z5, s9, s10, s11, z9, z10, z11⟩ : PV) 0 (k : Int) (n : Int) w; rw [hv2] at h; exact h)
          clear hv hv2
          have HLT := Lib.hid hlt
          have HC : ∀ W, Held w W [(kb, [.int .i64 s3, .int .i64 s4, .int .i64 s5, .int .i64 z3, .int .i64 z4, .int .i64 z5, .int .i64 s9, .int .i64 s10, .int .i64 s11, .int .i64 z9, .int .i64 z10, .int .i64 z11]), (ka, [.int .i64 s0, .int .i64 s1, .int .i64 s2, .int .i64 s3, .int .i64 s4, .int .i64 s5, .int .i64 s6, .int .i64 s7, .int .i64 s8, .int .i64 s9, .int .i64 s10, .int .i64 s11]), (kc, [.int .i64 q0, .int .i64 q1, .int .i64 q2, .int .i64 q3, .bool q4, .int .i64 q5, .int .i64 q6])] → ((W.cell? ⟨ka, 0, none⟩ = some (.int .i64 s0) ∧ W.cell? ⟨ka, 1, none⟩ = some (.int .i64 s1) ∧ W.cell? ⟨ka, 2, none⟩ = some (.int .i64 s2) ∧ W.cell? ⟨ka, 3, none⟩ = some (.int .i64 s3) ∧ W.cell? ⟨ka, 4, none⟩ = some (.int .i64 s4) ∧ W.cell? ⟨ka, 5, none⟩ = some (.int .i64 s5) ∧ W.cell? ⟨ka, 6, none⟩ = some (.int .i64 s6) ∧ W.cell? ⟨ka, 7, none⟩ = some (.int .i64 s7) ∧ W.cell? ⟨ka, 8, none⟩ = some (.int .i64 s8) ∧ W.cell? ⟨ka, 9, none⟩ = some (.int .i64 s9) ∧ W.cell? ⟨ka, 10, none⟩ = some (.int .i64 s10) ∧ W.cell? ⟨ka, 11, none⟩ = some (.int .i64 s11)) ∧ W.cell? ⟨kb, 0, none⟩ = some (.int .i64 s3) ∧ W.cell? ⟨kb, 1, none⟩ = some (.int .i64 s4) ∧ W.cell? ⟨kb, 2, none⟩ = some (.int .i64 s5) ∧ W.cell? ⟨kb, 3, none⟩ = some (.int .i64 z3) ∧ W.cell? ⟨kb, 4, none⟩ = some (.int .i64 z4) ∧ W.cell? ⟨kb, 5, none⟩ = some (.int .i64 z5) ∧ W.cell? ⟨kb, 6, none⟩ = some (.int .i64 s9) ∧ W.cell? ⟨kb, 7, none⟩ = some (.int .i64 s10) ∧ W.cell? ⟨kb, 8, none⟩ = some (.int .i64 s11) ∧ W.cell? ⟨kb, 9, none⟩ = some (.int .i64 z9) ∧ W.cell? ⟨kb, 10, none⟩ = some (.int .i64 z10) ∧ W.cell? ⟨kb, 11, none⟩ = some (.int .i64 z11)) := fun W h => ⟨⟨(h.box 1).c 0, (h.box 1).c 1, (h.box 1).c 2, (h.box 1).c 3, (h.box 1).c 4, (h.box 1).c 5, (h.box 1).c 6, (h.box 1).c 7, (h.box 1).c 8, (h.box 1).c 9, (h.box 1).c 10, (h.box 1).c 11⟩, (h.box 0).c 0, (h.box 0).c 1, (h.box 0).c 2, (h.box 0).c 3, (h.box 0).c 4, (h.box 0).c 5, (h.box 0).c 6, (h.box 0).c 7, (h.box 0).c 8, (h.box 0).c 9, (h.box 0).c 10, (h.box 0).c 11⟩
          go_upto_region 12 with fail
          have e1 := veq_selfKN v0 v1 v2
          have e2 := veq_selfK v0 v1 v2
          have e3 := veq_selfKI v0 v1 v2
          go_region_held3 (fun w' => (w'.cell? ⟨ka, 0, none⟩ = some (.int .i64 s0) ∧ w'.cell? ⟨ka, 1, none⟩ = some (.int .i64 s1) ∧ w'.cell? ⟨ka, 2, none⟩ = some (.int .i64 s2) ∧ w'.cell? ⟨ka, 3, none⟩ = some (.int .i64 s3) ∧ w'.cell? ⟨ka, 4, none⟩ = some (.int .i64 s4) ∧ w'.cell? ⟨ka, 5, none⟩ = some (.int .i64 s5) ∧ w'.cell? ⟨ka, 6, none⟩ = some (.int .i64 s6) ∧ w'.cell? ⟨ka, 7, none⟩ = some (.int .i64 s7) ∧ w'.cell? ⟨ka, 8, none⟩ = some (.int .i64 s8) ∧ w'.cell? ⟨ka, 9, none⟩ = some (.int .i64 s9) ∧ w'.cell? ⟨ka, 10, none⟩ = some (.int .i64 s10) ∧ w'.cell? ⟨ka, 11, none⟩ = some (.int .i64 s11)) ∧ w'.cell? ⟨kb, 0, none⟩ = some (.int .i64 s3) ∧ w'.cell? ⟨kb, 1, none⟩ = some (.int .i64 s4) ∧ w'.cell? ⟨kb, 2, none⟩ = some (.int .i64 s5) ∧ w'.cell? ⟨kb, 3, none⟩ = some (.int .i64 z3) ∧ w'.cell? ⟨kb, 4, none⟩ = some (.int .i64 z4) ∧ w'.cell? ⟨kb, 5, none⟩ = some (.int .i64 z5) ∧ w'.cell? ⟨kb, 6, none⟩ = some (.int .i64 s9) ∧ w'.cell? ⟨kb, 7, none⟩ = some (.int .i64 s10) ∧ w'.cell? ⟨kb, 8, none⟩ = some (.int .i64 s11) ∧ w'.cell? ⟨kb, 9, none⟩ = some (.int .i64 z9) ∧ w'.cell? ⟨kb, 10, none⟩ = some (.int .i64 z10) ∧ w'.cell? ⟨kb, 11, none⟩ = some (.int .i64 z11))
            (first | (with_reducible exact HC _ HT) | (with_reducible exact HC _ HT.drew))
            (first | (go_at_call 7; (first | (with_reducible refine (G1.out _).mono ?_) | (with_reducible refine (G2.out _).mono ?_)); rintro e w7 ⟨rfl, hb7⟩; (first | (have HT := HT.later hb7) | (have HT := HT.drew.later hb7))))
          have HTZ := Lib.hid HT
          clear HT HC e1 e2 e3 G1 G2 hlt
          go_wp2_with fail
          go_roundw
          case rel => exact ⟨k + 1, by have := HLT.out; omega, by go_num, HTZ.out⟩
          case measure => have := HLT.out; simp [intOf]; omega
        · obtain ⟨zz, hz⟩ : ∃ zz : Int, zz = (k : Int) := ⟨_, rfl⟩
          rw [← hz]
          have hz1 : ¬ zz ≤ (n : Int) := by omega
          clear hz hk hlt
          have HT0 := Lib.hid HT
          clear HT
          go_wp2_with fail
          go_loopw [8] (fun xi wr => ∃ k : Nat, k ≤ n ∧ xi = .int .i64 k ∧ Held w wr [(kb, [.int .i64 s3, .int .i64 s4, .int .i64 s5, .int .i64 z3, .int .i64 z4, .int .i64 z5, .int .i64 s9, .int .i64 s10, .int .i64 s11, .int .i64 z9, .int .i64 z10, .int .i64 z11]), (ka, [.int .i64 s0, .int .i64 s1, .int .i64 s2, .int .i64 s3, .int .i64 s4, .int .i64 s5, .int .i64 s6, .int .i64 s7, .int .i64 s8, .int .i64 s9, .int .i64 s10, .int .i64 s11]), (kc, [.int .i64 q0, .int .i64 q1, .int .i64 q2, .int .i64 q3, .bool q4, .int .i64 q5, .int .i64 q6])]) (fun xi _ => n - (intOf xi).toNat)
          case atStart => exact ⟨0, Nat.zero_le _, rfl, HT0.out⟩
          case round =>
            clear HT0
            obtain ⟨k, hk, rfl, HT⟩ := hrel
            by_cases hlt : k < n
            · have hlt' : (k : Int) < (n : Int) := by omega
              have hge' : (0 : Int) ≤ (k : Int) := by omega
              obtain ⟨xs, hxs⟩ : ∃ xs, xs = cellL (⟨q0, q1, q2, q3, q4, q5, q6⟩ : CV) (⟨s0, s1, s2, s3, s4, s5, s6, s7, s8, s9, s10, s11⟩ : PV) 3 (-5) ((n : Int) - 1) (k : Int) (n : Int) := ⟨_, rfl⟩
              obtain ⟨ys, hys⟩ : ∃ ys, ys = cellL (⟨q0, q1, q2, q3, q4, q5, q6⟩ : CV) (⟨s3, s4, s5, z3, z4, z5, s9, s10, s11, z9, z10, z11⟩ : PV) 3 (-5) 0 (k : Int) (n : Int) := ⟨_, rfl⟩
              have G1 : Hid (∀ w : World, Calls Try.prog 8 #[cam q0 q1 q2 q3 q4 q5 q6, tr s0 s1 s2 s3 s4 s5 s6 s7 s8 s9 s10 s11, .int .i64 ((n : Int) - 1), .int .i64 (k : Int), .int .i64 (n : Int), .int .i64 3, .int .i64 (-5)] w (MicOut xs w)) := Lib.hid (fun w => by rw [hxs]; exact diceCell_any (⟨q0, q1, q2, q3, q4, q5, q6⟩ : CV) (⟨s0, s1, s2, s3, s4, s5, s6, s7, s8, s9, s10, s11⟩ : PV) ((n : Int) - 1) (k : Int) (n : Int) 3 (-5) w)
              have G2 : Hid (∀ w : World, Calls Try.prog 8 #[cam q0 q1 q2 q3 q4 q5 q6, tr s3 s4 s5 z3 z4 z5 s9 s10 s11 z9 z10 z11, .int .i64 0, .int .i64 (k : Int), .int .i64 (n : Int), .int .i64 3, .int .i64 (-5)] w (MicOut ys w)) := Lib.hid (fun w => by rw [hys]; exact diceCell_any (⟨q0, q1, q2, q3, q4, q5, q6⟩ : CV) (⟨s3, s4, s5, z3, z4, z5, s9, s10, s11, z9, z10, z11⟩ : PV) 0 (k : Int) (n : Int) 3 (-5) w)
              have HCR : Hid (∀ p r q s, xs = p :: r → ys = q :: s → p.2.1 = q.1) := Lib.hid (fun p r q s h1 h2 => crack_free HJ.out ⟨by omega, by omega⟩ ⟨by omega, by omega⟩ (hxs.symm.trans h1) (hys.symm.trans h2))
              clear hxs hys
              have HLT := Lib.hid hlt
              clear hlt
              have c0 := (HT.box 2).c 0
              have c1 := (HT.box 2).c 1
              have c2 := (HT.box 2).c 2
              have c3 := (HT.box 2).c 3
              have c4 := (HT.box 2).c 4
              have c5 := (HT.box 2).c 5
              have c6 := (HT.box 2).c 6
              have d0 := (HT.box 1).c 0
              have d1 := (HT.box 1).c 1
              have d2 := (HT.box 1).c 2
              have d3 := (HT.box 1).c 3
              have d4 := (HT.box 1).c 4
              have d5 := (HT.box 1).c 5
              have d6 := (HT.box 1).c 6
              have d7 := (HT.box 1).c 7
              have d8 := (HT.box 1).c 8
              have d9 := (HT.box 1).c 9
              have d10 := (HT.box 1).c 10
              have d11 := (HT.box 1).c 11
              go_wp2_with fail
              refine (G1.out _).mono ?_
              rintro e w5 ⟨A1, c1_, rfl, ho1, hb5⟩
              have HRX := Lib.hid (RowC.of_own mgc_len ho1 rfl : RowC 12 mgc w5 w5.heap.size A1 xs)
              have HT := HT.later hb5
              clear ho1 hb5 G1 c0 c1 c2 c3 c4 c5 c6 d0 d1 d2 d3 d4 d5 d6 d7 d8 d9 d10 d11
              have c0 := (HT.box 2).c 0
              have c1 := (HT.box 2).c 1
              have c2 := (HT.box 2).c 2
              have c3 := (HT.box 2).c 3
              have c4 := (HT.box 2).c 4
              have c5 := (HT.box 2).c 5
              have c6 := (HT.box 2).c 6
              have d0 := (HT.box 0).c 0
              have d1 := (HT.box 0).c 1
              have d2 := (HT.box 0).c 2
              have d3 := (HT.box 0).c 3
              have d4 := (HT.box 0).c 4
              have d5 := (HT.box 0).c 5
              have d6 := (HT.box 0).c 6
              have d7 := (HT.box 0).c 7
              have d8 := (HT.box 0).c 8
              have d9 := (HT.box 0).c 9
              have d10 := (HT.box 0).c 10
              have d11 := (HT.box 0).c 11
              go_wp2_with fail
              refine (G2.out _).mono ?_
              rintro e w6 ⟨A2, c2_, rfl, ho2, hb6⟩
              have HRY := Lib.hid (RowC.of_own mgc_len ho2 rfl : RowC 12 mgc w6 w6.heap.size A2 ys)
              have HRX := Lib.hid (HRX.out.later hb6)
              have HT := HT.later hb6
              have HTZ := Lib.hid HT
              clear ho2 hb6 G2 c0 c1 c2 c3 c4 c5 c6 d0 d1 d2 d3 d4 d5 d6 d7 d8 d9 d10 d11 HT
              obtain ⟨lx, hlx⟩ : ∃ l, l = xs.length := ⟨_, rfl⟩
              obtain ⟨ly, hly⟩ : ∃ l, l = ys.length := ⟨_, rfl⟩
              rw [← hlx, ← hly]
              rcases xs with _ | ⟨p, r⟩
              · simp only [List.length_nil] at hlx
                subst hlx
                clear hly HCR HRX HRY
                go_upto_region 19 with fail
                go_quiet (fail)
                go_wp2_with fail
                go_roundw
                case rel => exact ⟨k + 1, HLT.out, by go_num, HTZ.out.drewN nq⟩
                case measure => have := HLT.out; simp [intOf]; omega
              · rcases ys with _ | ⟨q, s⟩
                · have hl1 : (0 : Int) < (lx : Int) := by rw [hlx]; simp
                  have hn1 : 0 < lx := by omega
                  simp only [List.length_nil] at hly
                  subst hly
                  clear hlx HCR HRX HRY
                  go_upto_region 19 with fail
                  go_quiet (fail)
                  go_wp2_with fail
                  go_roundw
                  case rel => exact ⟨k + 1, HLT.out, by go_num, HTZ.out.drewN nq⟩
                  case measure => have := HLT.out; simp [intOf]; omega
                · have hpq := HCR.out p r q s rfl rfl
                  obtain ⟨B1, o1, hA1, hB1, hc1⟩ := HRX.out.at (k := 0) (by simp)
                  obtain ⟨B2, o2, hA2, hB2, hc2⟩ := HRY.out.at (k := 0) (by simp)
                  obtain ⟨_, _, _, e3, e4, e5, _⟩ := mgc_at hc1
                  obtain ⟨g0, g1, g2, _⟩ := mgc_at hc2
                  simp only [List.getElem_cons_zero] at e3 e4 e5 g0 g1 g2
                  rw [hpq] at e3 e4 e5
                  obtain ⟨⟨v0, v1, v2⟩, q'⟩ := q
                  dsimp only at e3 e4 e5 g0 g1 g2
                  subst hA1 hA2
                  have k1 := veq_selfKN v0 v1 v2
                  have hl1 : (0 : Int) < (lx : Int) := by rw [hlx]; simp
                  have hn1 : 0 < lx := by omega
                  have hl2 : (0 : Int) < (ly : Int) := by rw [hly]; simp
                  have hn2 : 0 < ly := by omega
                  simp only [Nat.zero_mul, Nat.add_zero] at e3 e4 e5 g0 g1 g2
                  clear hc1 hc2 hpq HCR HRX HRY hlx hly
                  go_upto_region 19 with fail
                  go_quiet (fail)
                  go_wp2_with fail
                  go_roundw
                  case rel => exact ⟨k + 1, HLT.out, by go_num, HTZ.out.drewN nq⟩
                  case measure => have := HLT.out; simp [intOf]; omega
            · have e : n = k := by omega
              subst e
              clear hk hlt
              have hS3 := HSA.out (s3, s4, s5) (by simp)
              have hv : PV.at (⟨s3, s4, s5, z3, z4, z5, s9, s10, s11, z9, z10, z11⟩ : PV) 0 0 (n : Int) = (s3, s4, s5) := by
                unfold PV.at
                dsimp only
                rw [ev_corner _ _ _ _ _ ⟨by omega, by omega⟩, ev_corner _ _ _ _ _ ⟨by omega, by omega⟩, ev_corner _ _ _ _ _ ⟨by omega, by omega⟩, cc_in (by have := hS3.1; dsimp only at this; omega) (by have := hS3.1; dsimp only at this; omega), cc_in (by have := hS3.2.1; dsimp only at this; omega) (by have := hS3.2.1; dsimp only at this; omega), cc_in (by have := hS3.2.2; dsimp only at this; omega) (by have := hS3.2.2; dsimp only at this; omega)]
              have G1 : Hid (∀ w : World, Calls Try.prog 7 #[tr s3 s4 s5 z3 z4 z5 s9 s10 s11 z9 z10 z11, .int .i64 0, .int .i64 0, .int .i64 (n : Int)] w (VecOut s3 s4 s5 w)) := Lib.hid (fun w => by have h := evalP (⟨s3, s4, s5, z3, z4, z5, s9, s10, s11, z9, z10, z11⟩ : PV) 0 0 (n : Int) w; rw [hv] at h; exact h)
              clear hv hS3
              have HC : ∀ W, Held w W [(kb, [.int .i64 s3, .int .i64 s4, .int .i64 s5, .int .i64 z3, .int .i64 z4, .int .i64 z5, .int .i64 s9, .int .i64 s10, .int .i64 s11, .int .i64 z9, .int .i64 z10, .int .i64 z11]), (ka, [.int .i64 s0, .int .i64 s1, .int .i64 s2, .int .i64 s3, .int .i64 s4, .int .i64 s5, .int .i64 s6, .int .i64 s7, .int .i64 s8, .int .i64 s9, .int .i64 s10, .int .i64 s11]), (kc, [.int .i64 q0, .int .i64 q1, .int .i64 q2, .int .i64 q3, .bool q4, .int .i64 q5, .int .i64 q6])] → ((W.cell? ⟨ka, 0, none⟩ = some (.int .i64 s0) ∧ W.cell? ⟨ka, 1, none⟩ = some (.int .i64 s1) ∧ W.cell? ⟨ka, 2, none⟩ = some (.int .i64 s2) ∧ W.cell? ⟨ka, 3, none⟩ = some (.int .i64 s3) ∧ W.cell? ⟨ka, 4, none⟩ = some (.int .i64 s4) ∧ W.cell? ⟨ka, 5, none⟩ = some (.int .i64 s5) ∧ W.cell? ⟨ka, 6, none⟩ = some (.int .i64 s6) ∧ W.cell? ⟨ka, 7, none⟩ = some (.int .i64 s7) ∧ W.cell? ⟨ka, 8, none⟩ = some (.int .i64 s8) ∧ W.cell? ⟨ka, 9, none⟩ = some (.int .i64 s9) ∧ W.cell? ⟨ka, 10, none⟩ = some (.int .i64 s10) ∧ W.cell? ⟨ka, 11, none⟩ = some (.int .i64 s11)) ∧ W.cell? ⟨kb, 0, none⟩ = some (.int .i64 s3) ∧ W.cell? ⟨kb, 1, none⟩ = some (.int .i64 s4) ∧ W.cell? ⟨kb, 2, none⟩ = some (.int .i64 s5) ∧ W.cell? ⟨kb, 3, none⟩ = some (.int .i64 z3) ∧ W.cell? ⟨kb, 4, none⟩ = some (.int .i64 z4) ∧ W.cell? ⟨kb, 5, none⟩ = some (.int .i64 z5) ∧ W.cell? ⟨kb, 6, none⟩ = some (.int .i64 s9) ∧ W.cell? ⟨kb, 7, none⟩ = some (.int .i64 s10) ∧ W.cell? ⟨kb, 8, none⟩ = some (.int .i64 s11) ∧ W.cell? ⟨kb, 9, none⟩ = some (.int .i64 z9) ∧ W.cell? ⟨kb, 10, none⟩ = some (.int .i64 z10) ∧ W.cell? ⟨kb, 11, none⟩ = some (.int .i64 z11)) := fun W h => ⟨⟨(h.box 1).c 0, (h.box 1).c 1, (h.box 1).c 2, (h.box 1).c 3, (h.box 1).c 4, (h.box 1).c 5, (h.box 1).c 6, (h.box 1).c 7, (h.box 1).c 8, (h.box 1).c 9, (h.box 1).c 10, (h.box 1).c 11⟩, (h.box 0).c 0, (h.box 0).c 1, (h.box 0).c 2, (h.box 0).c 3, (h.box 0).c 4, (h.box 0).c 5, (h.box 0).c 6, (h.box 0).c 7, (h.box 0).c 8, (h.box 0).c 9, (h.box 0).c 10, (h.box 0).c 11⟩
              go_upto_region 21 with fail
              have e2 := veq_selfK s3 s4 s5
              have e3 := veq_selfKI s3 s4 s5
              go_region_held3 (fun w' => (w'.cell? ⟨ka, 0, none⟩ = some (.int .i64 s0) ∧ w'.cell? ⟨ka, 1, none⟩ = some (.int .i64 s1) ∧ w'.cell? ⟨ka, 2, none⟩ = some (.int .i64 s2) ∧ w'.cell? ⟨ka, 3, none⟩ = some (.int .i64 s3) ∧ w'.cell? ⟨ka, 4, none⟩ = some (.int .i64 s4) ∧ w'.cell? ⟨ka, 5, none⟩ = some (.int .i64 s5) ∧ w'.cell? ⟨ka, 6, none⟩ = some (.int .i64 s6) ∧ w'.cell? ⟨ka, 7, none⟩ = some (.int .i64 s7) ∧ w'.cell? ⟨ka, 8, none⟩ = some (.int .i64 s8) ∧ w'.cell? ⟨ka, 9, none⟩ = some (.int .i64 s9) ∧ w'.cell? ⟨ka, 10, none⟩ = some (.int .i64 s10) ∧ w'.cell? ⟨ka, 11, none⟩ = some (.int .i64 s11)) ∧ w'.cell? ⟨kb, 0, none⟩ = some (.int .i64 s3) ∧ w'.cell? ⟨kb, 1, none⟩ = some (.int .i64 s4) ∧ w'.cell? ⟨kb, 2, none⟩ = some (.int .i64 s5) ∧ w'.cell? ⟨kb, 3, none⟩ = some (.int .i64 z3) ∧ w'.cell? ⟨kb, 4, none⟩ = some (.int .i64 z4) ∧ w'.cell? ⟨kb, 5, none⟩ = some (.int .i64 z5) ∧ w'.cell? ⟨kb, 6, none⟩ = some (.int .i64 s9) ∧ w'.cell? ⟨kb, 7, none⟩ = some (.int .i64 s10) ∧ w'.cell? ⟨kb, 8, none⟩ = some (.int .i64 s11) ∧ w'.cell? ⟨kb, 9, none⟩ = some (.int .i64 z9) ∧ w'.cell? ⟨kb, 10, none⟩ = some (.int .i64 z10) ∧ w'.cell? ⟨kb, 11, none⟩ = some (.int .i64 z11))
                (first | (with_reducible exact HC _ HT) | (with_reducible exact HC _ HT.drew))
                (first | (go_at_call 7; (first | (with_reducible refine (G1.out _).mono ?_)); rintro e w7 ⟨rfl, hb7⟩; (first | (have HT := HT.later hb7) | (have HT := HT.drew.later hb7))))
              clear e2 e3 HC G1
              go_wp2_with fail
              go_ret
              exact ⟨rfl, HT.below⟩

set_option maxRecDepth 100000 in
theorem lifted (os : Os) (started : os.Started) (H : Type) (enc : TypeId × Value → H) :
    ReturnsInHanded {} Try.checked os 3 .any (Rows.fnCracksSpec.pre6 enc Try.prog Try.f3 Rows.fnCracksRow.domain false) (Rows.fnCracksSpec.post enc Try.prog Try.f3 false true false false) := by
  refine returnsInHanded_of_change (C := Try.checked) own started (by kernel_rfl) Try.func3
    (ChangeSpec.witness6 (enc := enc) (C := Try.checked) false ⟨#[], #[.slice none 0 0], []⟩ 8 (by kernel_rfl) (by kernel_rfl) (by kernel_rfl) (by kernel_rfl)) ?_
  intro W base args ds gs before hval0 hW hcnd _
  have hval : ∀ (j : Nat) t v, Try.f3.params[j]? = some t → args[j]? = some v → Value.okWide Try.prog W .any base t v := hval0
  have hW' := hW
  obtain ⟨p, q, hA0, hV, rfl, hfz, hnd⟩ := hW
  have hA : DataW.TrodAll enc Try.prog W 0 (fun _ => true) true Try.f3.params.toList args.toList ds p := hA0
  rw [Try.params3] at hA hval
  obtain ⟨v0, vs0, d0, ds0, p0, q0, hargs, rfl, rfl, h0, r1000⟩ := trodAll_cons hA
  obtain ⟨rfl, rfl, rfl⟩ := trodAll_nil r1000
  obtain rfl : args = #[v0] := by cases args; simp_all
  obtain ⟨rfl, rfl⟩ := trodVars_none hV
  obtain ⟨a0, len0, cap0, rfl⟩ := okWide_slice Try.underlying22 (hval 0 22 v0 rfl rfl)
  have k0 := h0
  have lt0 : ∀ x ∈ p0, x.block < W.heap.size := by obtain ⟨m, hm⟩ := k0; exact DataW.trod_lt m _ _ _ hm
  obtain ⟨x0, rfl, r0, m0, w0⟩ : ∃ xs : List Int, len0 = xs.length ∧ Row (Value.int .u8) W W.heap.size a0 xs ∧ xs.length ≤ maxLen ∧ ∀ x ∈ xs, (Lit.int .u8 x).wf = true := by
    obtain ⟨fuel, hf⟩ := h0
    rcases open_ints Try.underlying22 Try.underlying5 (by kernel_rfl) hf with ⟨hcs, _⟩ | ⟨x, l, c, zs, hcs, _, hl, hm, hz, _, hcell, hwz⟩
    · simp [Value.cells] at hcs
      obtain ⟨rfl, rfl, rfl⟩ := hcs
      exact ⟨[], rfl, Row.nil, Nat.zero_le _, fun x hx => by cases hx⟩
    · simp [Value.cells] at hcs
      obtain ⟨rfl, rfl, rfl⟩ := hcs
      exact row_of_cells (d := (0 : Int)) hl hm (by simpa using hz) hcell hwz
  clear hA0
  refine (walk W a0 cap0 x0 r0 m0 w0).mono fun e W' ⟨he, bel⟩ => ?_
  subst he
  exact ⟨_, rfl, _, _, _, [], _, [], hW', trodAll_mk1 (shut_bool Try.underlying4 _), (trodAll_cons_mk (Below.trod laidOut (by kernel_rfl) (of_decide_eq_true (by kernel_rfl)) k0 bel lt0) trodAll_mk0), rfl, bel.frame _, fun h => by cases h⟩

theorem proved : Rows.FnCracksSaid :=
  OpenClaim.holds_of_wide 3 Try.f3 rfl rfl rfl rfl rfl rfl rfl ⟨rfl, rfl, rfl, rfl, rfl⟩ rfl rfl rfl rfl rfl (by kernel_rfl) Try.func3 (by kernel_rfl)
    (of_decide_eq_true (by kernel_rfl)) (by unfold Func.isWrapper; first | (rw [if_pos (by decide +kernel)]; kernel_rfl) | (rw [if_neg (by decide +kernel)]; exact ⟨rfl, rfl⟩))
    (fun os started H enc _ => lifted os started H enc)
#print axioms proved
end Go.Proofs.Ytolinlcihddkoab.fnCracks
