/-
  Proved: the law FnSplit returns true for every input and its arguments read behind the call as they read before. Conditions: none of our own; those of the given row alone.
-/
import Derived.Test.YtjflkapdnnecjaaRows
import Derived.WalkKit
import Derived.ProofKit
import Derived.OpenShut
import Derived.ShutString
import Derived.SliceStrings
import Derived.ChangeOld
import Derived.Below
import Derived.Test.YtjflkapdnnecjaaMem
import Derived.Test.YtjflkapdnnecjaaInts
import Derived.Test.YtjflkapdnnecjaaIntS
import Derived.Test.YtjflkapdnnecjaaCur
import Derived.Test.YtjflkapdnnecjaaFlat
import Derived.Test.YtjflkapdnnecjaaVbox
import Derived.Test.YtjflkapdnnecjaaVec
import Derived.Test.YtjflkapdnnecjaaHeld
import Derived.Test.YtjflkapdnnecjaaArr
import Derived.Test.YtjflkapdnnecjaaTr
import Derived.Test.YtjflkapdnnecjaaRowC
import Derived.Test.YtjflkapdnnecjaaPat
import Derived.Test.YtjflkapdnnecjaaPVal
import Derived.Test.YtjflkapdnnecjaaGrid
import Derived.Test.YtjflkapdnnecjaaPut
import Derived.Test.YtjflkapdnnecjaaPEv
import Derived.Test.YtjflkapdnnecjaaSub
import Derived.Test.YtjflkapdnnecjaaSplW
import Derived.Test.YtjflkapdnnecjaaSplI
import Derived.Test.YtjflkapdnnecjaaSubE
import Derived.Test.YtjflkapdnnecjaaPEs
import Derived.Test.YtjflkapdnnecjaaVDraw
import Derived.Test.YtjflkapdnnecjaaPDraw
import Derived.Handy
import Derived.Deep.RegionHeld3
import Derived.Deep.DeepCutAuto
namespace Go.Proofs.Ytjflkapdnnecjaa.fnSplit
open Go.ChangeShapes Go.WideShapes Go.ChangeAt Go.RowKit
open Go.ChangeMaps (open_string shut_string)
set_option linter.unusedVariables false

theorem own : ownKnob Try.prog.godebug = none := by kernel_rfl
theorem laidOut : laidOutB Try.prog = true := by kernel_rfl
theorem own_mbox {W : World} {base : Nat} {e : TypeId} {g n c : Nat} {xs : List V3} (h : W.ownsRow base e 3 (.slice (some ⟨g, 0, none⟩) n c) n (xs.flatMap vg)) : Mbox W g (xs.flatMap vg) := fun i v hv => by
  have h1 := h.cellAt i (by
    have := (List.getElem?_eq_some_iff.1 hv).1
    rw [← h.1]
    exact this)
  exact ⟨h1.trans hv, h.frozenAt i⟩
theorem veq_selfQ (a b c : Int) (w : World) : (binOp .eql 24 (vec a b c) (vec a b c)).run Try.prog w = .ok (.bool true) w := by
  rw [veq_run]; simp [veqB]
theorem veq_selfI (a b c : Int) (w : World) : (Op.equalIn 10000 24 (vec a b c) (vec a b c)).run Try.prog w = .ok true w := by
  rw [veq_in]; simp [veqB]
set_option maxRecDepth 100000 in
set_option maxHeartbeats 20000000 in
theorem walk (w : World) (a0 : Option Addr) (c0 : Nat) (x0 : List Int) (r0 : Row (Value.int .u8) w w.heap.size a0 x0) (m0 : x0.length ≤ maxLen) (w0 : ∀ x ∈ x0, (Lit.int .u8 x).wf = true) :
    Calls Try.prog 3 #[.slice a0 x0.length c0] w fun e w' => e = .returned (.bool true) ∧ Below w.heap.size w w' := by
  have H8 : Hid (∀ x ∈ x0, 0 ≤ x ∧ x ≤ 255) := Lib.hid (fun x hx => bounds_u8 (w0 x hx))
  have HR : Hid (Row U8 w w.heap.size a0 x0) := Lib.hid r0
  clear w0 r0
  by_cases hbig : x0.length ≤ 1048576
  · go_enter Try.func3, Try.ntmps3
    go_wp2_with fail
    refine (makePatch_any _ _ x0 _ _ HR.out H8.out hbig (by omega) (by omega)).mono ?_
    rintro e w1 ⟨a0, a1, a2, a3, a4, a5, a6, a7, a8, x, y, z, hS, rfl, hb1⟩
    have HT := ((Held.nil w).later hb1).new #[.int .i64 a0, .int .i64 a1, .int .i64 a2, .int .i64 a3, .int .i64 a4, .int .i64 a5, .int .i64 a6, .int .i64 a7, .int .i64 a8, .int .i64 x, .int .i64 y, .int .i64 z] 27
    have HR1 := Lib.hid (HR.out.later HT.below)
    clear hb1 hS
    go_wp2_with fail
    refine (makeNum_any _ _ x0 _ _ HR1.out H8.out hbig (by omega) (by omega)).mono ?_
    rintro e w2 ⟨m1, m1l, m1h, rfl, hb2⟩
    have HT := HT.later hb2
    have HR2 := Lib.hid (HR.out.later HT.below)
    clear hb2
    go_wp2_with fail
    refine (makeNum_any _ _ x0 _ _ HR2.out H8.out hbig (by omega) (by omega)).mono ?_
    rintro e w3 ⟨m2, m2l, m2h, rfl, hb3⟩
    have HT := HT.later hb3
    have HR3 := Lib.hid (HR.out.later HT.below)
    clear hb3
    go_upto_region 6 with fail
    obtain ⟨n, hn⟩ : ∃ n, n = 1 + m1 % 8 := ⟨_, rfl⟩
    rw [← hn]
    obtain ⟨j, hj⟩ : ∃ j, j = m2 % (n + 1) := ⟨_, rfl⟩
    rw [← hj]
    have bn : 1 ≤ n ∧ n ≤ 8 := by omega
    have bj : 0 ≤ j ∧ j ≤ n := by
      have h1 := Int.emod_nonneg m2 (b := n + 1) (by omega)
      have h2 := Int.emod_lt_of_pos m2 (b := n + 1) (by omega)
      omega
    obtain ⟨d0, hd0⟩ : ∃ d, d = evP (cc a0) (cc a3) (cc a6) (cc x) n j (2 * n) := ⟨_, rfl⟩
    obtain ⟨e0, he0⟩ : ∃ d, d = evP (cc a0) (cc a3) (cc a6) (cc x) j n (2 * n) := ⟨_, rfl⟩
    obtain ⟨d1, hd1⟩ : ∃ d, d = evP (cc a1) (cc a4) (cc a7) (cc y) n j (2 * n) := ⟨_, rfl⟩
    obtain ⟨e1, he1⟩ : ∃ d, d = evP (cc a1) (cc a4) (cc a7) (cc y) j n (2 * n) := ⟨_, rfl⟩
    obtain ⟨d2, hd2⟩ : ∃ d, d = evP (cc a2) (cc a5) (cc a8) (cc z) n j (2 * n) := ⟨_, rfl⟩
    obtain ⟨e2, he2⟩ : ∃ d, d = evP (cc a2) (cc a5) (cc a8) (cc z) j n (2 * n) := ⟨_, rfl⟩
    have HA : Hid (∀ w : World, Calls Try.prog 15 #[tr a0 a1 a2 a3 a4 a5 a6 a7 a8 x y z, vec 0 0 2, .int .i64 n, .int .i64 j, .int .i64 n] w (VecB d0 d1 d2 true w)) := Lib.hid (fun w => by
      have h := evalSub_yes a0 a1 a2 a3 a4 a5 a6 a7 a8 x y z 0 0 2 n j n w ⟨by decide, by omega, by omega, by omega⟩
      simp only [Int.zero_mul, Int.zero_add] at h
      rw [hd0, hd1, hd2]
      exact h)
    have HB : Hid (∀ w : World, Calls Try.prog 15 #[tr a0 a1 a2 a3 a4 a5 a6 a7 a8 x y z, vec 1 0 2, .int .i64 0, .int .i64 j, .int .i64 n] w (VecB d0 d1 d2 true w)) := Lib.hid (fun w => by
      have h := evalSub_yes a0 a1 a2 a3 a4 a5 a6 a7 a8 x y z 1 0 2 0 j n w ⟨by decide, by omega, by omega, by omega⟩
      simp only [Int.zero_mul, Int.zero_add, Int.one_mul, Int.add_zero] at h
      rw [hd0, hd1, hd2]
      exact h)
    have HCC : Hid (∀ w : World, Calls Try.prog 15 #[tr a0 a1 a2 a3 a4 a5 a6 a7 a8 x y z, vec 0 0 2, .int .i64 j, .int .i64 n, .int .i64 n] w (VecB e0 e1 e2 true w)) := Lib.hid (fun w => by
      have h := evalSub_yes a0 a1 a2 a3 a4 a5 a6 a7 a8 x y z 0 0 2 j n n w ⟨by decide, by omega, by omega, by omega⟩
      simp only [Int.zero_mul, Int.zero_add] at h
      rw [he0, he1, he2]
      exact h)
    have HD : Hid (∀ w : World, Calls Try.prog 15 #[tr a0 a1 a2 a3 a4 a5 a6 a7 a8 x y z, vec 0 1 2, .int .i64 j, .int .i64 0, .int .i64 n] w (VecB e0 e1 e2 true w)) := Lib.hid (fun w => by
      have h := evalSub_yes a0 a1 a2 a3 a4 a5 a6 a7 a8 x y z 0 1 2 j 0 n w ⟨by decide, by omega, by omega, by omega⟩
      simp only [Int.zero_mul, Int.zero_add, Int.one_mul, Int.add_zero] at h
      rw [he0, he1, he2]
      exact h)
    have HE : Hid (∀ w : World, Calls Try.prog 16 #[tr a0 a1 a2 a3 a4 a5 a6 a7 a8 x y z, .int .i64 n, .int .i64 j, .int .i64 (2 * n)] w (VecOut d0 d1 d2 w)) := Lib.hid (fun w => by rw [hd0, hd1, hd2]; exact evalPatch_any a0 a1 a2 a3 a4 a5 a6 a7 a8 x y z n j (2 * n) w)
    have HSP : Hid (∀ w : World, Calls Try.prog 14 #[vec 0 0 1] w (SubsOut [(0, 0, 2), (1, 0, 2), (0, 1, 2), (1, 1, 2)] w)) := Lib.hid (fun w => by
      have h := split_any 0 0 1 w
      rw [show splS 0 0 1 = [(0, 0, 2), (1, 0, 2), (0, 1, 2), (1, 1, 2)] from by unfold splS; rw [if_pos ⟨by decide, by decide⟩]; rfl] at h
      exact h)
    have Z3 := Lib.hid (show IntKind.i64.wrap (2 * n) = 2 * n from wrap_in (by omega))
    clear hd0 hd1 hd2 he0 he1 he2 hn hj bn bj m1l m1h m2l m2h H8 HR HR1 HR2 HR3
    go_wp2_with fail
    refine (HSP.out _).mono ?_
    rintro e w4 ⟨A, c, rfl, ho, hb4⟩
    have HT := HT.later hb4
    clear hb4 HSP
    obtain ⟨gs, hA⟩ : ∃ g, A = some ⟨g, 0, none⟩ := by
      rcases ho.2 with ⟨_, h0⟩ | ⟨g, cap, cur, h, _⟩
      · cases h0
      · injection h with h; exact ⟨g, h⟩
    subst hA
    have HMB : Mbox w4 gs [.int .i64 0, .int .i64 0, .int .i64 2, .int .i64 1, .int .i64 0, .int .i64 2, .int .i64 0, .int .i64 1, .int .i64 2, .int .i64 1, .int .i64 1, .int .i64 2] := own_mbox ho
    have HT := HT.cons HMB
    rw [show ([(0, 0, 2), (1, 0, 2), (0, 1, 2), (1, 1, 2)] : List V3).length = 4 from rfl]
    clear ho HMB
    go_upto_region 9 with fail
    generalize w1.heap.size = k3 at HT ⊢
    have HC : ∀ W, Held w W [(gs, [.int .i64 0, .int .i64 0, .int .i64 2, .int .i64 1, .int .i64 0, .int .i64 2, .int .i64 0, .int .i64 1, .int .i64 2, .int .i64 1, .int .i64 1, .int .i64 2]), (k3, [.int .i64 a0, .int .i64 a1, .int .i64 a2, .int .i64 a3, .int .i64 a4, .int .i64 a5, .int .i64 a6, .int .i64 a7, .int .i64 a8, .int .i64 x, .int .i64 y, .int .i64 z])] → (W.cell? ⟨k3, 0, none⟩ = some (.int .i64 a0) ∧ W.cell? ⟨k3, 1, none⟩ = some (.int .i64 a1) ∧ W.cell? ⟨k3, 2, none⟩ = some (.int .i64 a2) ∧ W.cell? ⟨k3, 3, none⟩ = some (.int .i64 a3) ∧ W.cell? ⟨k3, 4, none⟩ = some (.int .i64 a4) ∧ W.cell? ⟨k3, 5, none⟩ = some (.int .i64 a5) ∧ W.cell? ⟨k3, 6, none⟩ = some (.int .i64 a6) ∧ W.cell? ⟨k3, 7, none⟩ = some (.int .i64 a7) ∧ W.cell? ⟨k3, 8, none⟩ = some (.int .i64 a8) ∧ W.cell? ⟨k3, 9, none⟩ = some (.int .i64 x) ∧ W.cell? ⟨k3, 10, none⟩ = some (.int .i64 y) ∧ W.cell? ⟨k3, 11, none⟩ = some (.int .i64 z) ∧ W.cell? ⟨gs, 0, none⟩ = some (.int .i64 0) ∧ W.cell? ⟨gs, 1, none⟩ = some (.int .i64 0) ∧ W.cell? ⟨gs, 2, none⟩ = some (.int .i64 2) ∧ W.rangeAt k3 0 [.int .i64 a0, .int .i64 a1, .int .i64 a2, .int .i64 a3, .int .i64 a4, .int .i64 a5, .int .i64 a6, .int .i64 a7, .int .i64 a8, .int .i64 x, .int .i64 y, .int .i64 z]) := fun W h => ⟨(h.box 1).c 0, (h.box 1).c 1, (h.box 1).c 2, (h.box 1).c 3, (h.box 1).c 4, (h.box 1).c 5, (h.box 1).c 6, (h.box 1).c 7, (h.box 1).c 8, (h.box 1).c 9, (h.box 1).c 10, (h.box 1).c 11, (h.box 0).c 0, (h.box 0).c 1, (h.box 0).c 2, (h.box 1).range12⟩
    have hz0 := (HT.box 0).lt
    have hz1 := (HT.box 1).lt
    have hzs := HT.size
    go_cut [7, 8] (fun s xb wx => ∃ gg : Nat, s = .pointer (some ⟨gg, 0, none⟩) ∧ xb = .bool true ∧ Mbox wx gg [.int .i64 d0, .int .i64 d1, .int .i64 d2] ∧ Held w wx [(gs, [.int .i64 0, .int .i64 0, .int .i64 2, .int .i64 1, .int .i64 0, .int .i64 2, .int .i64 0, .int .i64 1, .int .i64 2, .int .i64 1, .int .i64 1, .int .i64 2]), (k3, [.int .i64 a0, .int .i64 a1, .int .i64 a2, .int .i64 a3, .int .i64 a4, .int .i64 a5, .int .i64 a6, .int .i64 a7, .int .i64 a8, .int .i64 x, .int .i64 y, .int .i64 z])])
    case first =>
      go_region_held3 (fun w' => w'.cell? ⟨k3, 0, none⟩ = some (.int .i64 a0) ∧ w'.cell? ⟨k3, 1, none⟩ = some (.int .i64 a1) ∧ w'.cell? ⟨k3, 2, none⟩ = some (.int .i64 a2) ∧ w'.cell? ⟨k3, 3, none⟩ = some (.int .i64 a3) ∧ w'.cell? ⟨k3, 4, none⟩ = some (.int .i64 a4) ∧ w'.cell? ⟨k3, 5, none⟩ = some (.int .i64 a5) ∧ w'.cell? ⟨k3, 6, none⟩ = some (.int .i64 a6) ∧ w'.cell? ⟨k3, 7, none⟩ = some (.int .i64 a7) ∧ w'.cell? ⟨k3, 8, none⟩ = some (.int .i64 a8) ∧ w'.cell? ⟨k3, 9, none⟩ = some (.int .i64 x) ∧ w'.cell? ⟨k3, 10, none⟩ = some (.int .i64 y) ∧ w'.cell? ⟨k3, 11, none⟩ = some (.int .i64 z) ∧ w'.cell? ⟨gs, 0, none⟩ = some (.int .i64 0) ∧ w'.cell? ⟨gs, 1, none⟩ = some (.int .i64 0) ∧ w'.cell? ⟨gs, 2, none⟩ = some (.int .i64 2) ∧ w'.rangeAt k3 0 [.int .i64 a0, .int .i64 a1, .int .i64 a2, .int .i64 a3, .int .i64 a4, .int .i64 a5, .int .i64 a6, .int .i64 a7, .int .i64 a8, .int .i64 x, .int .i64 y, .int .i64 z])
        (first | (with_reducible exact HC _ HT) | (with_reducible exact HC _ HT.drew) | (with_reducible exact HC _ (HT.alloc _)) | (with_reducible exact HC _ (HT.alloc _).drew) | (with_reducible exact HC _ (HT.far3 (by omega) (by simp <;> omega) _ _ _)) | (with_reducible exact HC _ (HT.far3 (by omega) (by simp <;> omega) _ _ _).drew))
        (first | (go_at_call 15; refine (HA.out _).mono ?_; rintro e w1 ⟨rfl, hb1⟩; (first | (have HT := HT.later hb1) | (have HT := HT.drew.later hb1) | (have HT := (HT.alloc _).later hb1) | (have HT := (HT.alloc _).drew.later hb1)); have hz0 := (HT.box 0).lt; have hz1 := (HT.box 1).lt; have hzs := HT.size; (first | (have HG := (Mbox.newV _ (.int .i64 0) (.int .i64 0) (.int .i64 0) 24).later hb1) | (have HG := (Mbox.newV _ (.int .i64 0) (.int .i64 0) (.int .i64 0) 24).drew.later hb1) | (have HG := HG.later hb1) | skip); (try simp only [World.size_alloc] at HG); (try (have hg0 := HG.c 0; have gg0 := HG.f 0; have hg1 := HG.c 1; have gg1 := HG.f 1; have hg2 := HG.c 2; have gg2 := HG.f 2))))
      all_goals (go_wp2_with fail; go_meet)
      all_goals (first | with_reducible exact ⟨_, rfl, rfl, Mbox.newV _ _ _ _ _, HT.alloc _⟩ | with_reducible exact ⟨_, rfl, rfl, HG.putV _ _ _, HT.far3 (by omega) (by simp <;> omega) _ _ _⟩)
    case rest =>
      clear HC HT hzs hz0 hz1
      obtain ⟨g7, rfl, rfl, HV, HT⟩ := hcut
      have HT := HT.cons HV
      clear HV HA
      go_upto_region 10 with fail
      have HC : ∀ W, Held w W [(g7, [.int .i64 d0, .int .i64 d1, .int .i64 d2]), (gs, [.int .i64 0, .int .i64 0, .int .i64 2, .int .i64 1, .int .i64 0, .int .i64 2, .int .i64 0, .int .i64 1, .int .i64 2, .int .i64 1, .int .i64 1, .int .i64 2]), (k3, [.int .i64 a0, .int .i64 a1, .int .i64 a2, .int .i64 a3, .int .i64 a4, .int .i64 a5, .int .i64 a6, .int .i64 a7, .int .i64 a8, .int .i64 x, .int .i64 y, .int .i64 z])] → (W.cell? ⟨k3, 0, none⟩ = some (.int .i64 a0) ∧ W.cell? ⟨k3, 1, none⟩ = some (.int .i64 a1) ∧ W.cell? ⟨k3, 2, none⟩ = some (.int .i64 a2) ∧ W.cell? ⟨k3, 3, none⟩ = some (.int .i64 a3) ∧ W.cell? ⟨k3, 4, none⟩ = some (.int .i64 a4) ∧ W.cell? ⟨k3, 5, none⟩ = some (.int .i64 a5) ∧ W.cell? ⟨k3, 6, none⟩ = some (.int .i64 a6) ∧ W.cell? ⟨k3, 7, none⟩ = some (.int .i64 a7) ∧ W.cell? ⟨k3, 8, none⟩ = some (.int .i64 a8) ∧ W.cell? ⟨k3, 9, none⟩ = some (.int .i64 x) ∧ W.cell? ⟨k3, 10, none⟩ = some (.int .i64 y) ∧ W.cell? ⟨k3, 11, none⟩ = some (.int .i64 z) ∧ W.cell? ⟨gs, 3, none⟩ = some (.int .i64 1) ∧ W.cell? ⟨gs, 4, none⟩ = some (.int .i64 0) ∧ W.cell? ⟨gs, 5, none⟩ = some (.int .i64 2) ∧ W.rangeAt k3 0 [.int .i64 a0, .int .i64 a1, .int .i64 a2, .int .i64 a3, .int .i64 a4, .int .i64 a5, .int .i64 a6, .int .i64 a7, .int .i64 a8, .int .i64 x, .int .i64 y, .int .i64 z]) := fun W h => ⟨(h.box 2).c 0, (h.box 2).c 1, (h.box 2).c 2, (h.box 2).c 3, (h.box 2).c 4, (h.box 2).c 5, (h.box 2).c 6, (h.box 2).c 7, (h.box 2).c 8, (h.box 2).c 9, (h.box 2).c 10, (h.box 2).c 11, (h.box 1).c 3, (h.box 1).c 4, (h.box 1).c 5, (h.box 2).range12⟩
      have hz0 := (HT.box 0).lt
      have hz1 := (HT.box 1).lt
      have hz2 := (HT.box 2).lt
      have hzs := HT.size
      go_cut [9, 10] (fun s xb wx => ∃ gg : Nat, s = .pointer (some ⟨gg, 0, none⟩) ∧ xb = .bool true ∧ Mbox wx gg [.int .i64 d0, .int .i64 d1, .int .i64 d2] ∧ Held w wx [(g7, [.int .i64 d0, .int .i64 d1, .int .i64 d2]), (gs, [.int .i64 0, .int .i64 0, .int .i64 2, .int .i64 1, .int .i64 0, .int .i64 2, .int .i64 0, .int .i64 1, .int .i64 2, .int .i64 1, .int .i64 1, .int .i64 2]), (k3, [.int .i64 a0, .int .i64 a1, .int .i64 a2, .int .i64 a3, .int .i64 a4, .int .i64 a5, .int .i64 a6, .int .i64 a7, .int .i64 a8, .int .i64 x, .int .i64 y, .int .i64 z])])
      case first =>
        go_region_held3 (fun w' => w'.cell? ⟨k3, 0, none⟩ = some (.int .i64 a0) ∧ w'.cell? ⟨k3, 1, none⟩ = some (.int .i64 a1) ∧ w'.cell? ⟨k3, 2, none⟩ = some (.int .i64 a2) ∧ w'.cell? ⟨k3, 3, none⟩ = some (.int .i64 a3) ∧ w'.cell? ⟨k3, 4, none⟩ = some (.int .i64 a4) ∧ w'.cell? ⟨k3, 5, none⟩ = some (.int .i64 a5) ∧ w'.cell? ⟨k3, 6, none⟩ = some (.int .i64 a6) ∧ w'.cell? ⟨k3, 7, none⟩ = some (.int .i64 a7) ∧ w'.cell? ⟨k3, 8, none⟩ = some (.int .i64 a8) ∧ w'.cell? ⟨k3, 9, none⟩ = some (.int .i64 x) ∧ w'.cell? ⟨k3, 10, none⟩ = some (.int .i64 y) ∧ w'.cell? ⟨k3, 11, none⟩ = some (.int .i64 z) ∧ w'.cell? ⟨gs, 3, none⟩ = some (.int .i64 1) ∧ w'.cell? ⟨gs, 4, none⟩ = some (.int .i64 0) ∧ w'.cell? ⟨gs, 5, none⟩ = some (.int .i64 2) ∧ w'.rangeAt k3 0 [.int .i64 a0, .int .i64 a1, .int .i64 a2, .int .i64 a3, .int .i64 a4, .int .i64 a5, .int .i64 a6, .int .i64 a7, .int .i64 a8, .int .i64 x, .int .i64 y, .int .i64 z])
          (first | (with_reducible exact HC _ HT) | (with_reducible exact HC _ HT.drew) | (with_reducible exact HC _ (HT.alloc _)) | (with_reducible exact HC _ (HT.alloc _).drew) | (with_reducible exact HC _ (HT.far3 (by omega) (by simp <;> omega) _ _ _)) | (with_reducible exact HC _ (HT.far3 (by omega) (by simp <;> omega) _ _ _).drew))
          (first | (go_at_call 15; refine (HB.out _).mono ?_; rintro e w1 ⟨rfl, hb1⟩; (first | (have HT := HT.later hb1) | (have HT := HT.drew.later hb1) | (have HT := (HT.alloc _).later hb1) | (have HT := (HT.alloc _).drew.later hb1)); have hz0 := (HT.box 0).lt; have hz1 := (HT.box 1).lt; have hz2 := (HT.box 2).lt; have hzs := HT.size; (first | (have HG := (Mbox.newV _ (.int .i64 0) (.int .i64 0) (.int .i64 0) 24).later hb1) | (have HG := (Mbox.newV _ (.int .i64 0) (.int .i64 0) (.int .i64 0) 24).drew.later hb1) | (have HG := HG.later hb1) | skip); (try simp only [World.size_alloc] at HG); (try (have hg0 := HG.c 0; have gg0 := HG.f 0; have hg1 := HG.c 1; have gg1 := HG.f 1; have hg2 := HG.c 2; have gg2 := HG.f 2))))
        all_goals (go_wp2_with fail; go_meet)
        all_goals (first | with_reducible exact ⟨_, rfl, rfl, Mbox.newV _ _ _ _ _, HT.alloc _⟩ | with_reducible exact ⟨_, rfl, rfl, HG.putV _ _ _, HT.far3 (by omega) (by simp <;> omega) _ _ _⟩)
      case rest =>
        clear HC HT hzs hz0 hz1 hz2
        obtain ⟨g9, rfl, rfl, HV, HT⟩ := hcut
        have HT := HT.cons HV
        clear HV HB
        go_upto_region 11 with fail
        have HC : ∀ W, Held w W [(g9, [.int .i64 d0, .int .i64 d1, .int .i64 d2]), (g7, [.int .i64 d0, .int .i64 d1, .int .i64 d2]), (gs, [.int .i64 0, .int .i64 0, .int .i64 2, .int .i64 1, .int .i64 0, .int .i64 2, .int .i64 0, .int .i64 1, .int .i64 2, .int .i64 1, .int .i64 1, .int .i64 2]), (k3, [.int .i64 a0, .int .i64 a1, .int .i64 a2, .int .i64 a3, .int .i64 a4, .int .i64 a5, .int .i64 a6, .int .i64 a7, .int .i64 a8, .int .i64 x, .int .i64 y, .int .i64 z])] → (W.cell? ⟨k3, 0, none⟩ = some (.int .i64 a0) ∧ W.cell? ⟨k3, 1, none⟩ = some (.int .i64 a1) ∧ W.cell? ⟨k3, 2, none⟩ = some (.int .i64 a2) ∧ W.cell? ⟨k3, 3, none⟩ = some (.int .i64 a3) ∧ W.cell? ⟨k3, 4, none⟩ = some (.int .i64 a4) ∧ W.cell? ⟨k3, 5, none⟩ = some (.int .i64 a5) ∧ W.cell? ⟨k3, 6, none⟩ = some (.int .i64 a6) ∧ W.cell? ⟨k3, 7, none⟩ = some (.int .i64 a7) ∧ W.cell? ⟨k3, 8, none⟩ = some (.int .i64 a8) ∧ W.cell? ⟨k3, 9, none⟩ = some (.int .i64 x) ∧ W.cell? ⟨k3, 10, none⟩ = some (.int .i64 y) ∧ W.cell? ⟨k3, 11, none⟩ = some (.int .i64 z) ∧ W.cell? ⟨gs, 0, none⟩ = some (.int .i64 0) ∧ W.cell? ⟨gs, 1, none⟩ = some (.int .i64 0) ∧ W.cell? ⟨gs, 2, none⟩ = some (.int .i64 2) ∧ W.rangeAt k3 0 [.int .i64 a0, .int .i64 a1, .int .i64 a2, .int .i64 a3, .int .i64 a4, .int .i64 a5, .int .i64 a6, .int .i64 a7, .int .i64 a8, .int .i64 x, .int .i64 y, .int .i64 z]) := fun W h => ⟨(h.box 3).c 0, (h.box 3).c 1, (h.box 3).c 2, (h.box 3).c 3, (h.box 3).c 4, (h.box 3).c 5, (h.box 3).c 6, (h.box 3).c 7, (h.box 3).c 8, (h.box 3).c 9, (h.box 3).c 10, (h.box 3).c 11, (h.box 2).c 0, (h.box 2).c 1, (h.box 2).c 2, (h.box 3).range12⟩
        have hz0 := (HT.box 0).lt
        have hz1 := (HT.box 1).lt
        have hz2 := (HT.box 2).lt
        have hz3 := (HT.box 3).lt
        have hzs := HT.size
        go_cut [11, 12] (fun s xb wx => ∃ gg : Nat, s = .pointer (some ⟨gg, 0, none⟩) ∧ xb = .bool true ∧ Mbox wx gg [.int .i64 e0, .int .i64 e1, .int .i64 e2] ∧ Held w wx [(g9, [.int .i64 d0, .int .i64 d1, .int .i64 d2]), (g7, [.int .i64 d0, .int .i64 d1, .int .i64 d2]), (gs, [.int .i64 0, .int .i64 0, .int .i64 2, .int .i64 1, .int .i64 0, .int .i64 2, .int .i64 0, .int .i64 1, .int .i64 2, .int .i64 1, .int .i64 1, .int .i64 2]), (k3, [.int .i64 a0, .int .i64 a1, .int .i64 a2, .int .i64 a3, .int .i64 a4, .int .i64 a5, .int .i64 a6, .int .i64 a7, .int .i64 a8, .int .i64 x, .int .i64 y, .int .i64 z])])
        case first =>
          go_region_held3 (fun w' => w'.cell? ⟨k3, 0, none⟩ = some (.int .i64 a0) ∧ w'.cell? ⟨k3, 1, none⟩ = some (.int .i64 a1) ∧ w'.cell? ⟨k3, 2, none⟩ = some (.int .i64 a2) ∧ w'.cell? ⟨k3, 3, none⟩ = some (.int .i64 a3) ∧ w'.cell? ⟨k3, 4, none⟩ = some (.int .i64 a4) ∧ w'.cell? ⟨k3, 5, none⟩ = some (.int .i64 a5) ∧ w'.cell? ⟨k3, 6, none⟩ = some (.int .i64 a6) ∧ w'.cell? ⟨k3, 7, none⟩ = some (.int .i64 a7) ∧ w'.cell? ⟨k3, 8, none⟩ = some (.int .i64 a8) ∧ w'.cell? ⟨k3, 9, none⟩ = some (.int .i64 x) ∧ w'.cell? ⟨k3, 10, none⟩ = some (.int .i64 y) ∧ w'.cell? ⟨k3, 11, none⟩ = some (.int .i64 z) ∧ w'.cell? ⟨gs, 0, none⟩ = some (.int .i64 0) ∧ w'.cell? ⟨gs, 1, none⟩ = some (.int .i64 0) ∧ w'.cell? ⟨gs, 2, none⟩ = some (.int .i64 2) ∧ w'.rangeAt k3 0 [.int .i64 a0, .int .i64 a1, .int .i64 a2, .int .i64 a3, .int .i64 a4, .int .i64 a5, .int .i64 a6, .int .i64 a7, .int .i64 a8, .int .i64 x, .int .i64 y, .int .i64 z])
            (first | (with_reducible exact HC _ HT) | (with_reducible exact HC _ HT.drew) | (with_reducible exact HC _ (HT.alloc _)) | (with_reducible exact HC _ (HT.alloc _).drew) | (with_reducible exact HC _ (HT.far3 (by omega) (by simp <;> omega) _ _ _)) | (with_reducible exact HC _ (HT.far3 (by omega) (by simp <;> omega) _ _ _).drew))
            (first | (go_at_call 15; refine (HCC.out _).mono ?_; rintro e w1 ⟨rfl, hb1⟩; (first | (have HT := HT.later hb1) | (have HT := HT.drew.later hb1) | (have HT := (HT.alloc _).later hb1) | (have HT := (HT.alloc _).drew.later hb1)); have hz0 := (HT.box 0).lt; have hz1 := (HT.box 1).lt; have hz2 := (HT.box 2).lt; have hz3 := (HT.box 3).lt; have hzs := HT.size; (first | (have HG := (Mbox.newV _ (.int .i64 0) (.int .i64 0) (.int .i64 0) 24).later hb1) | (have HG := (Mbox.newV _ (.int .i64 0) (.int .i64 0) (.int .i64 0) 24).drew.later hb1) | (have HG := HG.later hb1) | skip); (try simp only [World.size_alloc] at HG); (try (have hg0 := HG.c 0; have gg0 := HG.f 0; have hg1 := HG.c 1; have gg1 := HG.f 1; have hg2 := HG.c 2; have gg2 := HG.f 2))))
          all_goals (go_wp2_with fail; go_meet)
          all_goals (first | with_reducible exact ⟨_, rfl, rfl, Mbox.newV _ _ _ _ _, HT.alloc _⟩ | with_reducible exact ⟨_, rfl, rfl, HG.putV _ _ _, HT.far3 (by omega) (by simp <;> omega) _ _ _⟩)
        case rest =>
          clear HC HT hzs hz0 hz1 hz2 hz3
          obtain ⟨g11, rfl, rfl, HV, HT⟩ := hcut
          have HT := HT.cons HV
          clear HV HCC
          go_upto_region 12 with fail
          have HC : ∀ W, Held w W [(g11, [.int .i64 e0, .int .i64 e1, .int .i64 e2]), (g9, [.int .i64 d0, .int .i64 d1, .int .i64 d2]), (g7, [.int .i64 d0, .int .i64 d1, .int .i64 d2]), (gs, [.int .i64 0, .int .i64 0, .int .i64 2, .int .i64 1, .int .i64 0, .int .i64 2, .int .i64 0, .int .i64 1, .int .i64 2, .int .i64 1, .int .i64 1, .int .i64 2]), (k3, [.int .i64 a0, .int .i64 a1, .int .i64 a2, .int .i64 a3, .int .i64 a4, .int .i64 a5, .int .i64 a6, .int .i64 a7, .int .i64 a8, .int .i64 x, .int .i64 y, .int .i64 z])] → (W.cell? ⟨k3, 0, none⟩ = some (.int .i64 a0) ∧ W.cell? ⟨k3, 1, none⟩ = some (.int .i64 a1) ∧ W.cell? ⟨k3, 2, none⟩ = some (.int .i64 a2) ∧ W.cell? ⟨k3, 3, none⟩ = some (.int .i64 a3) ∧ W.cell? ⟨k3, 4, none⟩ = some (.int .i64 a4) ∧ W.cell? ⟨k3, 5, none⟩ = some (.int .i64 a5) ∧ W.cell? ⟨k3, 6, none⟩ = some (.int .i64 a6) ∧ W.cell? ⟨k3, 7, none⟩ = some (.int .i64 a7) ∧ W.cell? ⟨k3, 8, none⟩ = some (.int .i64 a8) ∧ W.cell? ⟨k3, 9, none⟩ = some (.int .i64 x) ∧ W.cell? ⟨k3, 10, none⟩ = some (.int .i64 y) ∧ W.cell? ⟨k3, 11, none⟩ = some (.int .i64 z) ∧ W.cell? ⟨gs, 6, none⟩ = some (.int .i64 0) ∧ W.cell? ⟨gs, 7, none⟩ = some (.int .i64 1) ∧ W.cell? ⟨gs, 8, none⟩ = some (.int .i64 2) ∧ W.rangeAt k3 0 [.int .i64 a0, .int .i64 a1, .int .i64 a2, .int .i64 a3, .int .i64 a4, .int .i64 a5, .int .i64 a6, .int .i64 a7, .int .i64 a8, .int .i64 x, .int .i64 y, .int .i64 z]) := fun W h => ⟨(h.box 4).c 0, (h.box 4).c 1, (h.box 4).c 2, (h.box 4).c 3, (h.box 4).c 4, (h.box 4).c 5, (h.box 4).c 6, (h.box 4).c 7, (h.box 4).c 8, (h.box 4).c 9, (h.box 4).c 10, (h.box 4).c 11, (h.box 3).c 6, (h.box 3).c 7, (h.box 3).c 8, (h.box 4).range12⟩
          have hz0 := (HT.box 0).lt
          have hz1 := (HT.box 1).lt
          have hz2 := (HT.box 2).lt
          have hz3 := (HT.box 3).lt
          have hz4 := (HT.box 4).lt
          have hzs := HT.size
          go_cut [13, 14] (fun s xb wx => ∃ gg : Nat, s = .pointer (some ⟨gg, 0, none⟩) ∧ xb = .bool true ∧ Mbox wx gg [.int .i64 e0, .int .i64 e1, .int .i64 e2] ∧ Held w wx [(g11, [.int .i64 e0, .int .i64 e1, .int .i64 e2]), (g9, [.int .i64 d0, .int .i64 d1, .int .i64 d2]), (g7, [.int .i64 d0, .int .i64 d1, .int .i64 d2]), (gs, [.int .i64 0, .int .i64 0, .int .i64 2, .int .i64 1, .int .i64 0, .int .i64 2, .int .i64 0, .int .i64 1, .int .i64 2, .int .i64 1, .int .i64 1, .int .i64 2]), (k3, [.int .i64 a0, .int .i64 a1, .int .i64 a2, .int .i64 a3, .int .i64 a4, .int .i64 a5, .int .i64 a6, .int .i64 a7, .int .i64 a8, .int .i64 x, .int .i64 y, .int .i64 z])])
          case first =>
            go_region_held3 (fun w' => w'.cell? ⟨k3, 0, none⟩ = some (.int .i64 a0) ∧ w'.cell? ⟨k3, 1, none⟩ = some (.int .i64 a1) ∧ w'.cell? ⟨k3, 2, none⟩ = some (.int .i64 a2) ∧ w'.cell? ⟨k3, 3, none⟩ = some (.int .i64 a3) ∧ w'.cell? ⟨k3, 4, none⟩ = some (.int .i64 a4) ∧ w'.cell? ⟨k3, 5, none⟩ = some (.int .i64 a5) ∧ w'.cell? ⟨k3, 6, none⟩ = some (.int .i64 a6) ∧ w'.cell? ⟨k3, 7, none⟩ = some (.int .i64 a7) ∧ w'.cell? ⟨k3, 8, none⟩ = some (.int .i64 a8) ∧ w'.cell? ⟨k3, 9, none⟩ = some (.int .i64 x) ∧ w'.cell? ⟨k3, 10, none⟩ = some (.int .i64 y) ∧ w'.cell? ⟨k3, 11, none⟩ = some (.int .i64 z) ∧ w'.cell? ⟨gs, 6, none⟩ = some (.int .i64 0) ∧ w'.cell? ⟨gs, 7, none⟩ = some (.int .i64 1) ∧ w'.cell? ⟨gs, 8, none⟩ = some (.int .i64 2) ∧ w'.rangeAt k3 0 [.int .i64 a0, .int .i64 a1, .int .i64 a2, .int .i64 a3, .int .i64 a4, .int .i64 a5, .int .i64 a6, .int .i64 a7, .int .i64 a8, .int .i64 x, .int .i64 y, .int .i64 z])
              (first | (with_reducible exact HC _ HT) | (with_reducible exact HC _ HT.drew) | (with_reducible exact HC _ (HT.alloc _)) | (with_reducible exact HC _ (HT.alloc _).drew) | (with_reducible exact HC _ (HT.far3 (by omega) (by simp <;> omega) _ _ _)) | (with_reducible exact HC _ (HT.far3 (by omega) (by simp <;> omega) _ _ _).drew))
              (first | (go_at_call 15; refine (HD.out _).mono ?_; rintro e w1 ⟨rfl, hb1⟩; (first | (have HT := HT.later hb1) | (have HT := HT.drew.later hb1) | (have HT := (HT.alloc _).later hb1) | (have HT := (HT.alloc _).drew.later hb1)); have hz0 := (HT.box 0).lt; have hz1 := (HT.box 1).lt; have hz2 := (HT.box 2).lt; have hz3 := (HT.box 3).lt; have hz4 := (HT.box 4).lt; have hzs := HT.size; (first | (have HG := (Mbox.newV _ (.int .i64 0) (.int .i64 0) (.int .i64 0) 24).later hb1) | (have HG := (Mbox.newV _ (.int .i64 0) (.int .i64 0) (.int .i64 0) 24).drew.later hb1) | (have HG := HG.later hb1) | skip); (try simp only [World.size_alloc] at HG); (try (have hg0 := HG.c 0; have gg0 := HG.f 0; have hg1 := HG.c 1; have gg1 := HG.f 1; have hg2 := HG.c 2; have gg2 := HG.f 2))))
            all_goals (go_wp2_with fail; go_meet)
            all_goals (first | with_reducible exact ⟨_, rfl, rfl, Mbox.newV _ _ _ _ _, HT.alloc _⟩ | with_reducible exact ⟨_, rfl, rfl, HG.putV _ _ _, HT.far3 (by omega) (by simp <;> omega) _ _ _⟩)
          case rest =>
            clear HC HT hzs hz0 hz1 hz2 hz3 hz4
            obtain ⟨g13, rfl, rfl, HV, HT⟩ := hcut
            have HT := HT.cons HV
            clear HV HD
            have HC : ∀ W, Held w W [(g13, [.int .i64 e0, .int .i64 e1, .int .i64 e2]), (g11, [.int .i64 e0, .int .i64 e1, .int .i64 e2]), (g9, [.int .i64 d0, .int .i64 d1, .int .i64 d2]), (g7, [.int .i64 d0, .int .i64 d1, .int .i64 d2]), (gs, [.int .i64 0, .int .i64 0, .int .i64 2, .int .i64 1, .int .i64 0, .int .i64 2, .int .i64 0, .int .i64 1, .int .i64 2, .int .i64 1, .int .i64 1, .int .i64 2]), (k3, [.int .i64 a0, .int .i64 a1, .int .i64 a2, .int .i64 a3, .int .i64 a4, .int .i64 a5, .int .i64 a6, .int .i64 a7, .int .i64 a8, .int .i64 x, .int .i64 y, .int .i64 z])] → (W.cell? ⟨g13, 0, none⟩ = some (.int .i64 e0) ∧ W.cell? ⟨g13, 1, none⟩ = some (.int .i64 e1) ∧ W.cell? ⟨g13, 2, none⟩ = some (.int .i64 e2) ∧ W.cell? ⟨g11, 0, none⟩ = some (.int .i64 e0) ∧ W.cell? ⟨g11, 1, none⟩ = some (.int .i64 e1) ∧ W.cell? ⟨g11, 2, none⟩ = some (.int .i64 e2) ∧ W.cell? ⟨g9, 0, none⟩ = some (.int .i64 d0) ∧ W.cell? ⟨g9, 1, none⟩ = some (.int .i64 d1) ∧ W.cell? ⟨g9, 2, none⟩ = some (.int .i64 d2) ∧ W.cell? ⟨g7, 0, none⟩ = some (.int .i64 d0) ∧ W.cell? ⟨g7, 1, none⟩ = some (.int .i64 d1) ∧ W.cell? ⟨g7, 2, none⟩ = some (.int .i64 d2) ∧ W.cell? ⟨k3, 0, none⟩ = some (.int .i64 a0) ∧ W.cell? ⟨k3, 1, none⟩ = some (.int .i64 a1) ∧ W.cell? ⟨k3, 2, none⟩ = some (.int .i64 a2) ∧ W.cell? ⟨k3, 3, none⟩ = some (.int .i64 a3) ∧ W.cell? ⟨k3, 4, none⟩ = some (.int .i64 a4) ∧ W.cell? ⟨k3, 5, none⟩ = some (.int .i64 a5) ∧ W.cell? ⟨k3, 6, none⟩ = some (.int .i64 a6) ∧ W.cell? ⟨k3, 7, none⟩ = some (.int .i64 a7) ∧ W.cell? ⟨k3, 8, none⟩ = some (.int .i64 a8) ∧ W.cell? ⟨k3, 9, none⟩ = some (.int .i64 x) ∧ W.cell? ⟨k3, 10, none⟩ = some (.int .i64 y) ∧ W.cell? ⟨k3, 11, none⟩ = some (.int .i64 z)) := fun W h => ⟨(h.box 0).c 0, (h.box 0).c 1, (h.box 0).c 2, (h.box 1).c 0, (h.box 1).c 1, (h.box 1).c 2, (h.box 2).c 0, (h.box 2).c 1, (h.box 2).c 2, (h.box 3).c 0, (h.box 3).c 1, (h.box 3).c 2, (h.box 5).c 0, (h.box 5).c 1, (h.box 5).c 2, (h.box 5).c 3, (h.box 5).c 4, (h.box 5).c 5, (h.box 5).c 6, (h.box 5).c 7, (h.box 5).c 8, (h.box 5).c 9, (h.box 5).c 10, (h.box 5).c 11⟩
            have y1 := veq_selfI d0 d1 d2
            have y2 := veq_selfI e0 e1 e2
            have y4 := veq_selfQ d0 d1 d2
            have y5 := veq_selfQ e0 e1 e2
            have z3 := Z3.out
            go_upto_region 13 with fail
            go_region_held3 (fun w' => w'.cell? ⟨g13, 0, none⟩ = some (.int .i64 e0) ∧ w'.cell? ⟨g13, 1, none⟩ = some (.int .i64 e1) ∧ w'.cell? ⟨g13, 2, none⟩ = some (.int .i64 e2) ∧ w'.cell? ⟨g11, 0, none⟩ = some (.int .i64 e0) ∧ w'.cell? ⟨g11, 1, none⟩ = some (.int .i64 e1) ∧ w'.cell? ⟨g11, 2, none⟩ = some (.int .i64 e2) ∧ w'.cell? ⟨g9, 0, none⟩ = some (.int .i64 d0) ∧ w'.cell? ⟨g9, 1, none⟩ = some (.int .i64 d1) ∧ w'.cell? ⟨g9, 2, none⟩ = some (.int .i64 d2) ∧ w'.cell? ⟨g7, 0, none⟩ = some (.int .i64 d0) ∧ w'.cell? ⟨g7, 1, none⟩ = some (.int .i64 d1) ∧ w'.cell? ⟨g7, 2, none⟩ = some (.int .i64 d2) ∧ w'.cell? ⟨k3, 0, none⟩ = some (.int .i64 a0) ∧ w'.cell? ⟨k3, 1, none⟩ = some (.int .i64 a1) ∧ w'.cell? ⟨k3, 2, none⟩ = some (.int .i64 a2) ∧ w'.cell? ⟨k3, 3, none⟩ = some (.int .i64 a3) ∧ w'.cell? ⟨k3, 4, none⟩ = some (.int .i64 a4) ∧ w'.cell? ⟨k3, 5, none⟩ = some (.int .i64 a5) ∧ w'.cell? ⟨k3, 6, none⟩ = some (.int .i64 a6) ∧ w'.cell? ⟨k3, 7, none⟩ = some (.int .i64 a7) ∧ w'.cell? ⟨k3, 8, none⟩ = some (.int .i64 a8) ∧ w'.cell? ⟨k3, 9, none⟩ = some (.int .i64 x) ∧ w'.cell? ⟨k3, 10, none⟩ = some (.int .i64 y) ∧ w'.cell? ⟨k3, 11, none⟩ = some (.int .i64 z))
              (first | (with_reducible exact HC _ HT) | (with_reducible exact HC _ HT.drew))
              (first | (go_at_call 16; refine (HE.out _).mono ?_; rintro e w1 ⟨rfl, hb1⟩; (first | (have HT := HT.later hb1) | (have HT := HT.drew.later hb1))))
            clear y1 y2 y4 y5 z3
            go_wp2_with fail
            go_ret
            exact ⟨rfl, HT.below⟩
  · go_enter Try.func3, Try.ntmps3
    go_wp2_with fail
    go_ret
    exact ⟨rfl, Below.refl _ _⟩

set_option maxRecDepth 100000 in
theorem lifted (os : Os) (started : os.Started) (H : Type) (enc : TypeId × Value → H) :
    ReturnsInHanded {} Try.checked os 3 .any (Rows.fnSplitSpec.pre6 enc Try.prog Try.f3 Rows.fnSplitRow.domain false) (Rows.fnSplitSpec.post enc Try.prog Try.f3 false true false false) := by
  refine returnsInHanded_of_change (C := Try.checked) own started (by kernel_rfl) Try.func3
    (ChangeSpec.witness6 (enc := enc) (C := Try.checked) false ⟨#[], #[.slice none 0 0], []⟩ 8 (by kernel_rfl) (by kernel_rfl) (by kernel_rfl) (by kernel_rfl)) ?_
  intro W base args ds gs before hval0 hW hcnd _
  have hval : ∀ (j : Nat) t v, Try.f3.params[j]? = some t → args[j]? = some v → Value.okWide Try.prog W .any base t v := hval0
  have hW' := hW
  obtain ⟨p, q, hA0, hV, rfl, hfz, hnd⟩ := hW
  have hA : DataW.TrodAll enc Try.prog W 0 (fun _ => true) true Try.f3.params.toList args.toList ds p := hA0
  rw [Try.params3] at hA hval
  obtain ⟨v0, vs0, d0, ds0, p0, q0, hargs, rfl, rfl, h0, r1000⟩ := trodAll_cons hA
  obtain ⟨rfl, rfl, rfl⟩ := trodAll_nil r1000
  obtain rfl : args = #[v0] := by cases args; simp_all
  obtain ⟨rfl, rfl⟩ := trodVars_none hV
  obtain ⟨a0, len0, cap0, rfl⟩ := okWide_slice Try.underlying22 (hval 0 22 v0 rfl rfl)
  have k0 := h0
  have lt0 : ∀ x ∈ p0, x.block < W.heap.size := by obtain ⟨m, hm⟩ := k0; exact DataW.trod_lt m _ _ _ hm
  obtain ⟨x0, rfl, r0, m0, w0⟩ : ∃ xs : List Int, len0 = xs.length ∧ Row (Value.int .u8) W W.heap.size a0 xs ∧ xs.length ≤ maxLen ∧ ∀ x ∈ xs, (Lit.int .u8 x).wf = true := by
    obtain ⟨fuel, hf⟩ := h0
    rcases open_ints Try.underlying22 Try.underlying5 (by kernel_rfl) hf with ⟨hcs, _⟩ | ⟨x, l, c, zs, hcs, _, hl, hm, hz, _, hcell, hwz⟩
    · simp [Value.cells] at hcs
      obtain ⟨rfl, rfl, rfl⟩ := hcs
      exact ⟨[], rfl, Row.nil, Nat.zero_le _, fun x hx => by cases hx⟩
    · simp [Value.cells] at hcs
      obtain ⟨rfl, rfl, rfl⟩ := hcs
      exact row_of_cells (d := (0 : Int)) hl hm (by simpa using hz) hcell hwz
  clear hA0
  refine (walk W a0 cap0 x0 r0 m0 w0).mono fun e W' ⟨he, bel⟩ => ?_
  subst he
  exact ⟨_, rfl, _, _, _, [], _, [], hW', trodAll_mk1 (shut_bool Try.underlying4 _), (trodAll_cons_mk (Below.trod laidOut (by kernel_rfl) (of_decide_eq_true (by kernel_rfl)) k0 bel lt0) trodAll_mk0), rfl, bel.frame _, fun h => by cases h⟩

theorem proved : Rows.FnSplitSaid :=
  OpenClaim.holds_of_wide 3 Try.f3 rfl rfl rfl rfl rfl rfl rfl ⟨rfl, rfl, rfl, rfl, rfl⟩ rfl rfl rfl rfl rfl (by kernel_rfl) Try.func3 (by kernel_rfl)
    (of_decide_eq_true (by kernel_rfl)) (by unfold Func.isWrapper; first | (rw [if_pos (by decide +kernel)]; kernel_rfl) | (rw [if_neg (by decide +kernel)]; exact ⟨rfl, rfl⟩))
    (fun os started H enc _ => lifted os started H enc)
#print axioms proved
end Go.Proofs.Ytjflkapdnnecjaa.fnSplit
