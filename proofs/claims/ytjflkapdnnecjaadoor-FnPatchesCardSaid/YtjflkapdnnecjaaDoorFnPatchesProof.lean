/-
  Proved: the law FnPatches returns true for every input and its arguments read behind the call as they read before. Conditions: none of our own; those of the given row alone.
-/
import Derived.Test.YtjflkapdnnecjaaDoorRows
import Derived.Test.YtjflkapdnnecjaaDoorCards
import Derived.Test.YtjflkapdnnecjaaDoorTie
import Derived.WalkKit
import Derived.ProofKit
import Derived.OpenShut
import Derived.ShutString
import Derived.SliceStrings
import Derived.ChangeOld
import Derived.Below
import Derived.Deep.DeepHandedRow
import Derived.Lib.LaidTab
import Derived.Test.YtjflkapdnnecjaaDoorMem
import Derived.Test.YtjflkapdnnecjaaDoorInts
import Derived.Test.YtjflkapdnnecjaaDoorIntS
import Derived.Test.YtjflkapdnnecjaaDoorCur
import Derived.Test.YtjflkapdnnecjaaDoorStrS
import Derived.Test.YtjflkapdnnecjaaDoorNumP
import Derived.Test.YtjflkapdnnecjaaDoorFmt
import Derived.Test.YtjflkapdnnecjaaDoorBuilder
import Derived.Test.YtjflkapdnnecjaaDoorSplit
import Derived.Test.YtjflkapdnnecjaaDoorParse
import Derived.Test.YtjflkapdnnecjaaDoorFmts
import Derived.Test.YtjflkapdnnecjaaDoorParses
import Derived.Test.YtjflkapdnnecjaaDoorRound
import Derived.Test.YtjflkapdnnecjaaDoorNumsRound
import Derived.Test.YtjflkapdnnecjaaDoorDoor
import Derived.Test.YtjflkapdnnecjaaDoorDoorErr
import Derived.Test.YtjflkapdnnecjaaDoorFlat
import Derived.Test.YtjflkapdnnecjaaDoorVbox
import Derived.Test.YtjflkapdnnecjaaDoorVec
import Derived.Test.YtjflkapdnnecjaaDoorVlaw
import Derived.Test.YtjflkapdnnecjaaDoorVFmt
import Derived.Test.YtjflkapdnnecjaaDoorVPar
import Derived.Test.YtjflkapdnnecjaaDoorVLerp
import Derived.Test.YtjflkapdnnecjaaDoorHeld
import Derived.Test.YtjflkapdnnecjaaDoorArr
import Derived.Test.YtjflkapdnnecjaaDoorTr
import Derived.Test.YtjflkapdnnecjaaDoorRowC
import Derived.Test.YtjflkapdnnecjaaDoorPat
import Derived.Test.YtjflkapdnnecjaaDoorPVal
import Derived.Test.YtjflkapdnnecjaaDoorGrid
import Derived.Test.YtjflkapdnnecjaaDoorPut
import Derived.Test.YtjflkapdnnecjaaDoorPEv
import Derived.Test.YtjflkapdnnecjaaDoorPEdge
import Derived.Test.YtjflkapdnnecjaaDoorBox
import Derived.Test.YtjflkapdnnecjaaDoorBUnion
import Derived.Test.YtjflkapdnnecjaaDoorBPts
import Derived.Test.YtjflkapdnnecjaaDoorBCont
import Derived.Test.YtjflkapdnnecjaaDoorPBd
import Derived.Test.YtjflkapdnnecjaaDoorPFmt
import Derived.Test.YtjflkapdnnecjaaDoorPOf
import Derived.Test.YtjflkapdnnecjaaDoorPPi
import Derived.Test.YtjflkapdnnecjaaDoorVDraw
import Derived.Test.YtjflkapdnnecjaaDoorPDraw
import Derived.Test.YtjflkapdnnecjaaDoorPLaw
import Derived.Handy
import Derived.Deep.RegionHeld3
namespace Go.Proofs.YtjflkapdnnecjaaDoor.fnPatches
open Go.ChangeShapes Go.WideShapes Go.ChangeAt Go.RowKit
open Go.ChangeMaps (open_string shut_string)
set_option linter.unusedVariables false

theorem own : ownKnob Tryd.prog.godebug = none := by kernel_rfl
theorem laidOut : laidOutB Tryd.prog = true := by kernel_rfl
theorem fmtC_small (v : V3) : (fmtC v).size ≤ 100 := by
  unfold fmtC fmtV
  split
  · unfold fmtsP
    split
    · decide
    · split
      · unfold joinP
        rw [strOf_size]
        have h1 := joinN_len comma ([v.1, v.2.1, v.2.2].map fmtP) ([v.1, v.2.1, v.2.2].map fmtP).length
        have h2 := sizeN_fmt [v.1, v.2.1, v.2.2] ([v.1, v.2.1, v.2.2].map fmtP).length
        have h3 : comma.size = 1 := rfl
        rw [h3] at h1
        simp only [List.length_map, List.length_cons, List.length_nil] at h1 h2 ⊢
        omega
      · decide
  · decide
theorem sizeN_small (ps : List V3) (k : Nat) : sizeN (ps.map fmtC) k ≤ 100 * k := by
  induction k with
  | zero => exact Nat.le_refl _
  | succ k ih =>
    rw [sizeN]
    have : ((ps.map fmtC).getD k ByteArray.empty).size ≤ 100 := by
      by_cases h : k < (ps.map fmtC).length
      · rw [List.getD_eq_getElem?_getD, List.getElem?_eq_getElem h, Option.getD_some, List.getElem_map]
        exact fmtC_small _
      · rw [List.getD_eq_getElem?_getD, List.getElem?_eq_none (by omega)]
        exact Nat.zero_le _
    omega
theorem fmtQ_small (ps : List V3) (h : ps.length = 4) : (fmtQ ps).size ≤ 1048576 := by
  unfold fmtQ
  split
  · unfold joinP
    rw [strOf_size]
    have h1 := joinN_len spc (ps.map fmtC) (ps.map fmtC).length
    have h2 := sizeN_small ps (ps.map fmtC).length
    have h3 : spc.size = 1 := rfl
    rw [h3] at h1
    simp only [List.length_map] at h1 h2 ⊢
    omega
  · decide
set_option maxRecDepth 100000 in
set_option maxHeartbeats 20000000 in
theorem walk (w : World) (a0 : Option Addr) (c0 : Nat) (x0 : List Int) (r0 : Row (Value.int .u8) w w.heap.size a0 x0) (m0 : x0.length ≤ maxLen) (w0 : ∀ x ∈ x0, (Lit.int .u8 x).wf = true) (HP : Hid (Pow w)) (HE : Hid (Errs w)) :
    Calls Tryd.prog 5 #[.slice a0 x0.length c0] w fun e w' => e = .returned (.bool true) ∧ Below w.heap.size w w' := by
  have H8 : Hid (∀ x ∈ x0, 0 ≤ x ∧ x ≤ 255) := Lib.hid (fun x hx => bounds_u8 (w0 x hx))
  have HR : Hid (Row U8 w w.heap.size a0 x0) := Lib.hid r0
  clear w0 r0
  by_cases hbig : x0.length ≤ 1048576
  · go_enter Tryd.func5, Tryd.ntmps5
    go_wp2_with fail
    refine (makePatch_any _ _ x0 _ _ HR.out H8.out hbig (by omega) (by omega)).mono ?_
    rintro e w1 ⟨a0, a1, a2, a3, a4, a5, a6, a7, a8, x, y, z, hS, rfl, hb1⟩
    have HT := ((Held.nil w).later hb1).new #[.int .i64 a0, .int .i64 a1, .int .i64 a2, .int .i64 a3, .int .i64 a4, .int .i64 a5, .int .i64 a6, .int .i64 a7, .int .i64 a8, .int .i64 x, .int .i64 y, .int .i64 z] 46
    have HR1 := Lib.hid (HR.out.later HT.below)
    have HSA := Lib.hid hS
    clear hb1 hS
    go_wp2_with fail
    refine (makeNum_any _ _ x0 _ _ HR1.out H8.out hbig (by omega) (by omega)).mono ?_
    rintro e w2 ⟨m1, m1l, m1h, rfl, hb2⟩
    have HT := HT.later hb2
    have HR2 := Lib.hid (HR.out.later HT.below)
    clear hb2
    go_wp2_with fail
    refine (makeNum_any _ _ x0 _ _ HR2.out H8.out hbig (by omega) (by omega)).mono ?_
    rintro e w3 ⟨m2, m2l, m2h, rfl, hb3⟩
    have HT := HT.later hb3
    have HR3 := Lib.hid (HR.out.later HT.below)
    clear hb3
    go_wp2_with fail
    refine (makeNum_any _ _ x0 _ _ HR3.out H8.out hbig (by omega) (by omega)).mono ?_
    rintro e w4 ⟨m3, m3l, m3h, rfl, hb4⟩
    have HT := HT.later hb4
    have HR4 := Lib.hid (HR.out.later HT.below)
    clear hb4
    go_upto_region 7 with fail
    obtain ⟨n, hn⟩ : ∃ n, n = 1 + m1 % 8 := ⟨_, rfl⟩
    rw [← hn]
    obtain ⟨i, hi⟩ : ∃ i, i = m2 % (n + 1) := ⟨_, rfl⟩
    obtain ⟨j, hj⟩ : ∃ j, j = m3 % (n + 1) := ⟨_, rfl⟩
    rw [← hi, ← hj]
    have bn : 1 ≤ n ∧ n ≤ 8 := by omega
    have bi : 0 ≤ i ∧ i ≤ n := by
      have h1 := Int.emod_nonneg m2 (b := n + 1) (by omega)
      have h2 := Int.emod_lt_of_pos m2 (b := n + 1) (by omega)
      omega
    have bj : 0 ≤ j ∧ j ≤ n := by
      have h1 := Int.emod_nonneg m3 (b := n + 1) (by omega)
      have h2 := Int.emod_lt_of_pos m3 (b := n + 1) (by omega)
      omega
    obtain ⟨d0, d1, d2, f0, f1, f2, g0, g1, g2, q0, q1, q2, q3, q4, q5, E1, E2, E3, E4, E5, E6, E7, E8⟩ := patch_law a0 a1 a2 a3 a4 a5 a6 a7 a8 x y z i j n bn bi bj
    have G1 := Lib.hid E1
    have G2 := Lib.hid E2
    have G3 := Lib.hid E3
    have G4 := Lib.hid E4
    have G5 := Lib.hid E5
    have G6 := Lib.hid E6
    have G7 := Lib.hid E7
    have G8 := Lib.hid E8
    have z1 : IntKind.i64.wrap (2 * i) = 2 * i := wrap_in (by omega)
    have z2 : IntKind.i64.wrap (2 * j) = 2 * j := wrap_in (by omega)
    have z3 : IntKind.i64.wrap (2 * n) = 2 * n := wrap_in (by omega)
    have Z1 := Lib.hid z1
    have Z2 := Lib.hid z2
    have Z3 := Lib.hid z3
    clear E1 E2 E3 E4 E5 E6 E7 E8 z1 z2 z3 hn hi hj bn bi bj m1l m1h m2l m2h m3l m3h H8 HR HR1 HR2 HR3 HR4
    have c0 := (HT.box 0).c 0
    have c1 := (HT.box 0).c 1
    have c2 := (HT.box 0).c 2
    have c3 := (HT.box 0).c 3
    have c4 := (HT.box 0).c 4
    have c5 := (HT.box 0).c 5
    have c6 := (HT.box 0).c 6
    have c7 := (HT.box 0).c 7
    have c8 := (HT.box 0).c 8
    have c9 := (HT.box 0).c 9
    have c10 := (HT.box 0).c 10
    have c11 := (HT.box 0).c 11
    go_wp2_with fail
    refine (G1.out _).mono ?_
    rintro e w5 ⟨rfl, hb5⟩
    have HT := (HT.later hb5).new #[.int .i64 d0, .int .i64 d1, .int .i64 d2] 24
    clear hb5 c0 c1 c2 c3 c4 c5 c6 c7 c8 c9 c10 c11
    have c0 := (HT.box 1).c 0
    have c1 := (HT.box 1).c 1
    have c2 := (HT.box 1).c 2
    have c3 := (HT.box 1).c 3
    have c4 := (HT.box 1).c 4
    have c5 := (HT.box 1).c 5
    have c6 := (HT.box 1).c 6
    have c7 := (HT.box 1).c 7
    have c8 := (HT.box 1).c 8
    have c9 := (HT.box 1).c 9
    have c10 := (HT.box 1).c 10
    have c11 := (HT.box 1).c 11
    have hok : okP [(a0, a1, a2), (a3, a4, a5), (a6, a7, a8), (x, y, z)] = true := small_okP HSA.out
    obtain ⟨fs, hfs⟩ : ∃ fs, fs = fmtQ [(a0, a1, a2), (a3, a4, a5), (a6, a7, a8), (x, y, z)] := ⟨_, rfl⟩
    have HOF := Lib.hid (pat_of_fmt rfl hok hfs.symm)
    have HSZ := Lib.hid (show fs.size ≤ 1048576 by rw [hfs]; exact fmtQ_small _ rfl)
    have HFM : Hid (∀ w : World, Pow w → Calls Tryd.prog 22 #[tr a0 a1 a2 a3 a4 a5 a6 a7 a8 x y z] w (fun e w' => e = .returned (.string fs) ∧ Below w.heap.size w w')) := Lib.hid (fun w h => by rw [hfs]; exact formatPatch_any a0 a1 a2 a3 a4 a5 a6 a7 a8 x y z w h)
    clear hok hfs
    go_wp2_with fail
    refine (HFM.out _ (HP.out.later HT.below)).mono ?_
    rintro e w6 ⟨rfl, hb6⟩
    have HT := HT.later hb6
    clear hb6 c0 c1 c2 c3 c4 c5 c6 c7 c8 c9 c10 c11 HFM
    go_wp2_with fail
    refine (parsePatch_any fs _ HSZ.out (HP.out.later HT.below) (HE.out.later HT.below)).mono ?_
    rintro e w7 ⟨h7, hb7⟩
    obtain rfl : e = .returned (.tuple #[tr a0 a1 a2 a3 a4 a5 a6 a7 a8 x y z, .bool true]) := by
      rcases h7 with ⟨b0, b1, b2, b3, b4, b5, b6, b7, b8, b9, b10, b11, e2, h⟩ | ⟨e2, h⟩
      · have hm := patOf_inj HOF.out h
        simp only [List.cons.injEq, Prod.mk.injEq, and_true] at hm
        obtain ⟨⟨q0, q1, q2⟩, ⟨q3, q4, q5⟩, ⟨q6, q7, q8⟩, q9, q10, q11⟩ := hm
        rw [e2, q0, q1, q2, q3, q4, q5, q6, q7, q8, q9, q10, q11]
      · exact absurd HOF.out (h _)
    have HT := (HT.later hb7).new #[.int .i64 a0, .int .i64 a1, .int .i64 a2, .int .i64 a3, .int .i64 a4, .int .i64 a5, .int .i64 a6, .int .i64 a7, .int .i64 a8, .int .i64 x, .int .i64 y, .int .i64 z] 46
    clear hb7 h7 HOF HSZ HSA HP HE
    go_upto_region 9 with fail
    generalize w7.alloc _ = W at HT ⊢
    generalize w7.heap.size = k8 at HT ⊢
    generalize w5.heap.size = k7 at HT ⊢
    generalize w1.heap.size = k3 at HT ⊢
    have HC : ∀ W, Held w W [(k8, [.int .i64 a0, .int .i64 a1, .int .i64 a2, .int .i64 a3, .int .i64 a4, .int .i64 a5, .int .i64 a6, .int .i64 a7, .int .i64 a8, .int .i64 x, .int .i64 y, .int .i64 z]), (k7, [.int .i64 d0, .int .i64 d1, .int .i64 d2]), (k3, [.int .i64 a0, .int .i64 a1, .int .i64 a2, .int .i64 a3, .int .i64 a4, .int .i64 a5, .int .i64 a6, .int .i64 a7, .int .i64 a8, .int .i64 x, .int .i64 y, .int .i64 z])] → (W.cell? ⟨k8, 0, none⟩ = some (.int .i64 a0) ∧ W.cell? ⟨k8, 1, none⟩ = some (.int .i64 a1) ∧ W.cell? ⟨k8, 2, none⟩ = some (.int .i64 a2) ∧ W.cell? ⟨k8, 3, none⟩ = some (.int .i64 a3) ∧ W.cell? ⟨k8, 4, none⟩ = some (.int .i64 a4) ∧ W.cell? ⟨k8, 5, none⟩ = some (.int .i64 a5) ∧ W.cell? ⟨k8, 6, none⟩ = some (.int .i64 a6) ∧ W.cell? ⟨k8, 7, none⟩ = some (.int .i64 a7) ∧ W.cell? ⟨k8, 8, none⟩ = some (.int .i64 a8) ∧ W.cell? ⟨k8, 9, none⟩ = some (.int .i64 x) ∧ W.cell? ⟨k8, 10, none⟩ = some (.int .i64 y) ∧ W.cell? ⟨k8, 11, none⟩ = some (.int .i64 z) ∧ W.cell? ⟨k7, 0, none⟩ = some (.int .i64 d0) ∧ W.cell? ⟨k7, 1, none⟩ = some (.int .i64 d1) ∧ W.cell? ⟨k7, 2, none⟩ = some (.int .i64 d2) ∧ W.cell? ⟨k3, 0, none⟩ = some (.int .i64 a0) ∧ W.cell? ⟨k3, 1, none⟩ = some (.int .i64 a1) ∧ W.cell? ⟨k3, 2, none⟩ = some (.int .i64 a2) ∧ W.cell? ⟨k3, 3, none⟩ = some (.int .i64 a3) ∧ W.cell? ⟨k3, 4, none⟩ = some (.int .i64 a4) ∧ W.cell? ⟨k3, 5, none⟩ = some (.int .i64 a5) ∧ W.cell? ⟨k3, 6, none⟩ = some (.int .i64 a6) ∧ W.cell? ⟨k3, 7, none⟩ = some (.int .i64 a7) ∧ W.cell? ⟨k3, 8, none⟩ = some (.int .i64 a8) ∧ W.cell? ⟨k3, 9, none⟩ = some (.int .i64 x) ∧ W.cell? ⟨k3, 10, none⟩ = some (.int .i64 y) ∧ W.cell? ⟨k3, 11, none⟩ = some (.int .i64 z)) := fun W h => ⟨(h.box 0).c 0, (h.box 0).c 1, (h.box 0).c 2, (h.box 0).c 3, (h.box 0).c 4, (h.box 0).c 5, (h.box 0).c 6, (h.box 0).c 7, (h.box 0).c 8, (h.box 0).c 9, (h.box 0).c 10, (h.box 0).c 11, (h.box 1).c 0, (h.box 1).c 1, (h.box 1).c 2, (h.box 2).c 0, (h.box 2).c 1, (h.box 2).c 2, (h.box 2).c 3, (h.box 2).c 4, (h.box 2).c 5, (h.box 2).c 6, (h.box 2).c 7, (h.box 2).c 8, (h.box 2).c 9, (h.box 2).c 10, (h.box 2).c 11⟩
    have e1 := veq_selfI d0 d1 d2
    have e2 := veq_selfI f0 f1 f2
    have e3 := veq_selfI g0 g1 g2
    have e4 := veq_selfQ d0 d1 d2
    have e5 := veq_selfQ f0 f1 f2
    have e6 := veq_selfQ g0 g1 g2
    have e7 := pat_selfI a0 a1 a2 a3 a4 a5 a6 a7 a8 x y z
    have e8 := pat_selfQ a0 a1 a2 a3 a4 a5 a6 a7 a8 x y z
    have z1 := Z1.out
    have z2 := Z2.out
    have z3 := Z3.out
    go_region_held3 (fun w' => w'.cell? ⟨k8, 0, none⟩ = some (.int .i64 a0) ∧ w'.cell? ⟨k8, 1, none⟩ = some (.int .i64 a1) ∧ w'.cell? ⟨k8, 2, none⟩ = some (.int .i64 a2) ∧ w'.cell? ⟨k8, 3, none⟩ = some (.int .i64 a3) ∧ w'.cell? ⟨k8, 4, none⟩ = some (.int .i64 a4) ∧ w'.cell? ⟨k8, 5, none⟩ = some (.int .i64 a5) ∧ w'.cell? ⟨k8, 6, none⟩ = some (.int .i64 a6) ∧ w'.cell? ⟨k8, 7, none⟩ = some (.int .i64 a7) ∧ w'.cell? ⟨k8, 8, none⟩ = some (.int .i64 a8) ∧ w'.cell? ⟨k8, 9, none⟩ = some (.int .i64 x) ∧ w'.cell? ⟨k8, 10, none⟩ = some (.int .i64 y) ∧ w'.cell? ⟨k8, 11, none⟩ = some (.int .i64 z) ∧ w'.cell? ⟨k7, 0, none⟩ = some (.int .i64 d0) ∧ w'.cell? ⟨k7, 1, none⟩ = some (.int .i64 d1) ∧ w'.cell? ⟨k7, 2, none⟩ = some (.int .i64 d2) ∧ w'.cell? ⟨k3, 0, none⟩ = some (.int .i64 a0) ∧ w'.cell? ⟨k3, 1, none⟩ = some (.int .i64 a1) ∧ w'.cell? ⟨k3, 2, none⟩ = some (.int .i64 a2) ∧ w'.cell? ⟨k3, 3, none⟩ = some (.int .i64 a3) ∧ w'.cell? ⟨k3, 4, none⟩ = some (.int .i64 a4) ∧ w'.cell? ⟨k3, 5, none⟩ = some (.int .i64 a5) ∧ w'.cell? ⟨k3, 6, none⟩ = some (.int .i64 a6) ∧ w'.cell? ⟨k3, 7, none⟩ = some (.int .i64 a7) ∧ w'.cell? ⟨k3, 8, none⟩ = some (.int .i64 a8) ∧ w'.cell? ⟨k3, 9, none⟩ = some (.int .i64 x) ∧ w'.cell? ⟨k3, 10, none⟩ = some (.int .i64 y) ∧ w'.cell? ⟨k3, 11, none⟩ = some (.int .i64 z))
      (first | (with_reducible exact HC _ HT) | (with_reducible exact HC _ HT.drew))
      (first | (go_at_call 20; (first | (with_reducible refine (G2.out _).mono ?_) | (with_reducible refine (G6.out _).mono ?_) | (with_reducible refine (G8.out _).mono ?_)); rintro e w1 ⟨rfl, hb1⟩; (first | (have HT := HT.later hb1) | (have HT := HT.drew.later hb1))) | (go_at_call 24; (first | (with_reducible refine (G3.out _).mono ?_)); rintro e w1 ⟨rfl, hb1⟩; (first | (have HT := HT.later hb1) | (have HT := HT.drew.later hb1))) | (go_at_call 23; (first | (with_reducible refine (G4.out _).mono ?_)); rintro e w1 ⟨rfl, hb1⟩; (first | (have HT := HT.later hb1) | (have HT := HT.drew.later hb1))) | (go_at_call 25; (first | (with_reducible refine (G5.out _).mono ?_) | (with_reducible refine (G7.out _).mono ?_)); rintro e w1 ⟨rfl, hb1⟩; (first | (have HT := HT.later hb1) | (have HT := HT.drew.later hb1))))
    clear e1 e2 e3 e4 e5 e6 e7 e8 z1 z2 z3
    go_wp2_with fail
    go_ret
    exact ⟨rfl, HT.below⟩
  · go_enter Tryd.func5, Tryd.ntmps5
    go_wp2_with fail
    go_ret
    exact ⟨rfl, Below.refl _ _⟩

set_option maxRecDepth 100000 in
theorem contract (H : Type) (enc : TypeId × Value → H) (W : World) (base : Nat) (args : Array Value) (ds gs : List (DataW H)) (before : List MemPlace)
    (hval : ∀ (j : Nat) t v, Tryd.f5.params[j]? = some t → args[j]? = some v → Value.okWide Tryd.prog W .any base t v)
    (hW : DataW.Whole enc Tryd.prog Tryd.f5.params.toList Rows.fnPatchesSpec.vars false W args.toList ds gs before) (hL : laidMetH Tryd.prog Rows.fnPatchesRow.laid W) :
    Calls Tryd.prog 5 args W fun e W' => ∃ v, e = .returned v ∧ Rows.fnPatchesSpec.post enc Tryd.prog Tryd.f5 false true false false W args v W' := by
  have hW' := hW
  obtain ⟨p, q, hA0, hV, rfl, hfz, hnd⟩ := hW
  have hA : DataW.TrodAll enc Tryd.prog W 0 (fun _ => true) true Tryd.f5.params.toList args.toList ds p := hA0
  rw [Tryd.params5] at hA hval
  obtain ⟨v0, vs0, d0, ds0, p0, q0, hargs, rfl, rfl, h0, r1000⟩ := trodAll_cons hA
  obtain ⟨rfl, rfl, rfl⟩ := trodAll_nil r1000
  obtain rfl : args = #[v0] := by cases args; simp_all
  obtain ⟨rfl, rfl⟩ := trodVars_none hV
  obtain ⟨a0, len0, cap0, rfl⟩ := okWide_slice Tryd.underlying31 (hval 0 31 v0 rfl rfl)
  have k0 := h0
  have lt0 : ∀ x ∈ p0, x.block < W.heap.size := by obtain ⟨m, hm⟩ := k0; exact DataW.trod_lt m _ _ _ hm
  obtain ⟨x0, rfl, r0, m0, w0⟩ : ∃ xs : List Int, len0 = xs.length ∧ Row (Value.int .u8) W W.heap.size a0 xs ∧ xs.length ≤ maxLen ∧ ∀ x ∈ xs, (Lit.int .u8 x).wf = true := by
    obtain ⟨fuel, hf⟩ := h0
    rcases open_ints Tryd.underlying31 Tryd.underlying5 (by kernel_rfl) hf with ⟨hcs, _⟩ | ⟨x, l, c, zs, hcs, _, hl, hm, hz, _, hcell, hwz⟩
    · simp [Value.cells] at hcs
      obtain ⟨rfl, rfl, rfl⟩ := hcs
      exact ⟨[], rfl, Row.nil, Nat.zero_le _, fun x hx => by cases hx⟩
    · simp [Value.cells] at hcs
      obtain ⟨rfl, rfl, rfl⟩ := hcs
      exact row_of_cells (d := (0 : Int)) hl hm (by simpa using hz) hcell hwz
  clear hA0
  refine (walk W a0 cap0 x0 r0 m0 w0 (Lib.hid (pow_of _ (by kernel_rfl) hL)) (Lib.hid (errs_of _ (by kernel_rfl) (by kernel_rfl) hL))).mono fun e W' ⟨he, bel⟩ => ?_
  subst he
  exact ⟨_, rfl, _, _, _, [], _, [], hW', trodAll_mk1 (shut_bool Tryd.underlying4 _), (trodAll_cons_mk (Below.trod laidOut (by kernel_rfl) (of_decide_eq_true (by kernel_rfl)) k0 bel lt0) trodAll_mk0), rfl, bel.frame _, fun h => by cases h⟩

theorem laid_met (os : Os) : laidMet Tryd.prog Rows.fnPatchesRow.laid ((laidWorldE os).forCall (fun _ _ => 0) ⟨#[], #[.slice none 0 0], []⟩).memory :=
  laidMet_of_run' 8 (by kernel_rfl) (by kernel_rfl)
theorem reads (os : Os) {H : Type} (enc : TypeId × Value → H) : ∃ d places, DataW.whole enc Tryd.prog ((laidWorldE os).forCall (fun _ _ => 0) ⟨#[], #[.slice none 0 0], []⟩).memory Tryd.f5.params.toList Rows.fnPatchesSpec.vars false (#[.slice none 0 0] : Array Value).toList 8 = some (d, [], places) :=
  ⟨[.nil], [], by kernel_rfl⟩
set_option maxRecDepth 100000 in
theorem lifted (os : Os) (started : os.Started) (H : Type) (enc : TypeId × Value → H) (F : Stop.Interp) :
    ReturnsInHanded {} Tryd.checked os 5 .any ((OpenSpec.ofChange Rows.fnPatchesSpec).preRow enc Tryd.prog Tryd.f5 Rows.fnPatchesRow.domain false Rows.fnPatchesRow.laid) (((OpenSpec.ofChange Rows.fnPatchesSpec).at F).post enc Tryd.prog Tryd.f5 false true false false) := by
  obtain ⟨d, places, hx⟩ := reads os enc
  refine returnsInHanded_of_row (C := Tryd.checked) (s := OpenSpec.ofChange Rows.fnPatchesSpec) own started (by kernel_rfl) Tryd.func5
    (witness_row_atRef (enc := enc) (C := Tryd.checked) false (laidWorldE os) #[.slice none 0 0] rfl (by kernel_rfl) (by kernel_rfl) (by kernel_rfl)
      (OpenSpec.preRow_of_cond 8 hx (by kernel_rfl) (fun k hk => by cases hk) (by kernel_rfl) (laid_met os))) ?_
  intro W base args ds gs before hval hW _ _ _ hL _ _
  exact contract H enc W base args ds gs before hval hW hL
theorem said : Rows.FnPatchesSaid :=
  OpenClaim.holds_of_cond 5 Tryd.f5 rfl rfl rfl rfl rfl rfl rfl ⟨rfl, rfl, rfl, rfl, rfl⟩ rfl rfl rfl rfl rfl (by kernel_rfl) Tryd.func5 (by kernel_rfl)
    (of_decide_eq_true (by kernel_rfl)) (by unfold Func.isWrapper; first | (rw [if_pos (by decide +kernel)]; kernel_rfl) | (rw [if_neg (by decide +kernel)]; exact ⟨rfl, rfl⟩))
    (fun os started H enc _ F => by rw [OpenClaim.pre_eq_preRow]; exact lifted os started H enc F)
theorem plain (f : FuncId) (fn : Func) (hf : Tryd.pinned.checked.prog.funcNamed "loop.example/g00809/laws.FnPatches" = some f) (hfn : Tryd.pinned.checked.prog.funcs[f]? = some fn) :
    true = Tryd.pinned.checked.prog.looks [] ∧ ∀ (j : Nat) t, fn.params[j]? = some t → Tryd.pinned.checked.prog.wantsStandIn t = false := by
  obtain rfl : f = 5 := Option.some.inj ((show Tryd.prog.funcNamed "loop.example/g00809/laws.FnPatches" = some 5 by kernel_rfl).symm.trans hf) |>.symm
  obtain rfl : fn = Tryd.f5 := (Option.some.inj (Tryd.func5.symm.trans hfn)).symm
  refine ⟨by kernel_rfl, fun j t ht => ?_⟩
  rw [Tryd.params5] at ht
  have hm := Array.mem_of_getElem? ht
  simp only [List.mem_toArray, List.mem_cons, List.not_mem_nil, or_false] at hm
  rcases hm with rfl
  · exact (show Tryd.prog.wantsStandIn 31 = false by kernel_rfl)
theorem proved : Rows.FnPatchesCardSaid :=
  Claim7.holds_tied_plain_at .later [] _ _ _ _ said (fun _ h => by cases h) (by kernel_rfl) (fun _ h => by cases h) fnPatches_row_tie rfl ⟨rfl, rfl⟩ (by kernel_rfl) rfl plain (by kernel_rfl)
#print axioms proved
end Go.Proofs.YtjflkapdnnecjaaDoor.fnPatches
