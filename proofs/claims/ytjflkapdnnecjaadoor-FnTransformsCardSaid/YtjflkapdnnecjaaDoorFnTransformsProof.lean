/-
  Proved: the law FnTransforms returns true for every input and its arguments read behind the call as they read before. Conditions: none of our own; those of the given row alone.
-/
import Derived.Test.YtjflkapdnnecjaaDoorRows
import Derived.Test.YtjflkapdnnecjaaDoorCards
import Derived.Test.YtjflkapdnnecjaaDoorTie
import Derived.WalkKit
import Derived.ProofKit
import Derived.OpenShut
import Derived.ShutString
import Derived.SliceStrings
import Derived.ChangeOld
import Derived.Below
import Derived.Deep.DeepHandedRow
import Derived.Lib.LaidTab
import Derived.Test.YtjflkapdnnecjaaDoorMem
import Derived.Test.YtjflkapdnnecjaaDoorInts
import Derived.Test.YtjflkapdnnecjaaDoorIntS
import Derived.Test.YtjflkapdnnecjaaDoorCur
import Derived.Test.YtjflkapdnnecjaaDoorStrS
import Derived.Test.YtjflkapdnnecjaaDoorNumP
import Derived.Test.YtjflkapdnnecjaaDoorFmt
import Derived.Test.YtjflkapdnnecjaaDoorBuilder
import Derived.Test.YtjflkapdnnecjaaDoorSplit
import Derived.Test.YtjflkapdnnecjaaDoorParse
import Derived.Test.YtjflkapdnnecjaaDoorFmts
import Derived.Test.YtjflkapdnnecjaaDoorParses
import Derived.Test.YtjflkapdnnecjaaDoorRound
import Derived.Test.YtjflkapdnnecjaaDoorNumsRound
import Derived.Test.YtjflkapdnnecjaaDoorDoor
import Derived.Test.YtjflkapdnnecjaaDoorDoorErr
import Derived.Test.YtjflkapdnnecjaaDoorFlat
import Derived.Test.YtjflkapdnnecjaaDoorVbox
import Derived.Test.YtjflkapdnnecjaaDoorVec
import Derived.Test.YtjflkapdnnecjaaDoorVlaw
import Derived.Test.YtjflkapdnnecjaaDoorVFmt
import Derived.Test.YtjflkapdnnecjaaDoorVPar
import Derived.Test.YtjflkapdnnecjaaDoorVSubVec
import Derived.Test.YtjflkapdnnecjaaDoorHeld
import Derived.Test.YtjflkapdnnecjaaDoorArr
import Derived.Test.YtjflkapdnnecjaaDoorTr
import Derived.Test.YtjflkapdnnecjaaDoorTMat
import Derived.Test.YtjflkapdnnecjaaDoorTFmt
import Derived.Test.YtjflkapdnnecjaaDoorCut
import Derived.Test.YtjflkapdnnecjaaDoorTOf
import Derived.Test.YtjflkapdnnecjaaDoorTPi
import Derived.Test.YtjflkapdnnecjaaDoorRowC
import Derived.Test.YtjflkapdnnecjaaDoorVecS
import Derived.Test.YtjflkapdnnecjaaDoorTAllA
import Derived.Test.YtjflkapdnnecjaaDoorTIden
import Derived.Test.YtjflkapdnnecjaaDoorVDraw
import Derived.Test.YtjflkapdnnecjaaDoorTDraw
import Derived.Test.YtjflkapdnnecjaaDoorTLaw
import Derived.Handy
import Derived.Deep.RegionHeld3
namespace Go.Proofs.YtjflkapdnnecjaaDoor.fnTransforms
open Go.ChangeShapes Go.WideShapes Go.ChangeAt Go.RowKit
open Go.ChangeMaps (open_string shut_string)
set_option linter.unusedVariables false

theorem own : ownKnob Tryd.prog.godebug = none := by kernel_rfl
theorem laidOut : laidOutB Tryd.prog = true := by kernel_rfl
theorem rowDrew {n : Nat} {g : V12 → List Value} {w : World} {A : Option Addr} {xs : List V12} (h : RowC n g w w.heap.size A xs) : RowC n g w.drew w.drew.heap.size A xs := h.later (Below.refl _ _).drew
theorem fmts_small (l : List Int) (hl : l.length ≤ 20) : (fmtsP l).size ≤ 2000 := by
  unfold fmtsP
  split
  · decide
  · split
    · unfold joinP
      rw [strOf_size]
      have h1 := joinN_len comma (l.map fmtP) (l.map fmtP).length
      have h2 := sizeN_fmt l (l.map fmtP).length
      have h3 : comma.size = 1 := rfl
      rw [h3] at h1
      simp only [List.length_map] at h1 h2 ⊢
      omega
    · decide
theorem fmtT_small (a0 a1 a2 a3 a4 a5 a6 a7 a8 x y z : Int) : (fmtT a0 a1 a2 a3 a4 a5 a6 a7 a8 x y z).size ≤ 1048576 := by
  have h1 := fmts_small [a0, a1, a2, a3, a4, a5, a6, a7, a8] (by simp)
  have h2 : (fmtV x y z).size ≤ 2000 := by
    unfold fmtV
    split
    · exact fmts_small _ (by simp)
    · decide
  have h3 : semi.size = 1 := rfl
  unfold fmtT
  split
  · rw [ByteArray.size_append, ByteArray.size_append, h3]; omega
  · decide
set_option maxRecDepth 100000 in
set_option maxHeartbeats 20000000 in
theorem walk (w : World) (a0 : Option Addr) (c0 : Nat) (x0 : List Int) (r0 : Row (Value.int .u8) w w.heap.size a0 x0) (m0 : x0.length ≤ maxLen) (w0 : ∀ x ∈ x0, (Lit.int .u8 x).wf = true) (HP : Hid (Pow w)) (HE : Hid (Errs w)) :
    Calls Tryd.prog 4 #[.slice a0 x0.length c0] w fun e w' => e = .returned (.bool true) ∧ Below w.heap.size w w' := by
  have H8 : Hid (∀ x ∈ x0, 0 ≤ x ∧ x ≤ 255) := Lib.hid (fun x hx => bounds_u8 (w0 x hx))
  have HR : Hid (Row U8 w w.heap.size a0 x0) := Lib.hid r0
  clear w0 r0
  by_cases hbig : x0.length ≤ 1048576
  · go_enter Tryd.func4, Tryd.ntmps4
    go_wp2_with fail
    refine (makeVec_any _ _ x0 _ _ HR.out H8.out hbig (by omega) (by omega)).mono ?_
    rintro e w1 ⟨p, q, r, hS, rfl, hb1⟩
    have HT := ((Held.nil w).later hb1).new #[.int .i64 p, .int .i64 q, .int .i64 r] 24
    have HR1 := Lib.hid (HR.out.later HT.below)
    have HSV := Lib.hid hS
    clear hb1 hS
    go_wp2_with fail
    refine (makeVec_any _ _ x0 _ _ HR1.out H8.out hbig (by omega) (by omega)).mono ?_
    rintro e w2 ⟨s0, s1, s2, hS, rfl, hb2⟩
    have HT := (HT.later hb2).new #[.int .i64 s0, .int .i64 s1, .int .i64 s2] 24
    have HR2 := Lib.hid (HR.out.later HT.below)
    have HSW := Lib.hid hS
    clear hb2 hS HR1
    go_wp2_with fail
    refine (makeNum_any _ _ x0 _ _ HR2.out H8.out hbig (by omega) (by omega)).mono ?_
    rintro e w3 ⟨ax, axl, axh, rfl, hb3⟩
    have HT := HT.later hb3
    clear hb3 HR2
    go_upto_region 6 with fail
    obtain ⟨a, ha⟩ : ∃ a, a = ax % 3 := ⟨_, rfl⟩
    rw [← ha]
    have ba : 0 ≤ a ∧ a ≤ 2 := by omega
    obtain ⟨m0, m1, m2, m3, m4, m5, m6, m7, m8, n0, n1, n2, n3, n4, n5, n6, n7, n8, u0, u1, u2, E1, E2, E3, E4, E5⟩ := quarter_law a p q r ba.1 ba.2 HSV.out
    have G1 := Lib.hid E1
    have G2 := Lib.hid E2
    have G3 := Lib.hid E3
    have G4 := Lib.hid E4
    have G5 := Lib.hid E5
    clear E1 E2 E3 E4 E5 ha ba axl axh
    go_wp2_with fail
    refine (G1.out _).mono ?_
    rintro e w4 ⟨rfl, hb4⟩
    have HT := (HT.later hb4).new #[.int .i64 m0, .int .i64 m1, .int .i64 m2, .int .i64 m3, .int .i64 m4, .int .i64 m5, .int .i64 m6, .int .i64 m7, .int .i64 m8, .int .i64 0, .int .i64 0, .int .i64 0] 26
    have HR4 := Lib.hid (HR.out.later HT.below)
    clear hb4
    go_wp2_with fail
    refine (makeTransform_any _ _ x0 _ HR4.out H8.out hbig).mono ?_
    rintro e w5 ⟨a0, a1, a2, a3, a4, a5, a6, a7, a8, x, y, z, hok, rfl, hb5⟩
    have HT := (HT.later hb5).new #[.int .i64 a0, .int .i64 a1, .int .i64 a2, .int .i64 a3, .int .i64 a4, .int .i64 a5, .int .i64 a6, .int .i64 a7, .int .i64 a8, .int .i64 x, .int .i64 y, .int .i64 z] 26
    have HOK := Lib.hid hok
    clear hb5 hok HR4 HR H8
    have c0 := (HT.box 0).c 0
    have c1 := (HT.box 0).c 1
    have c2 := (HT.box 0).c 2
    have c3 := (HT.box 0).c 3
    have c4 := (HT.box 0).c 4
    have c5 := (HT.box 0).c 5
    have c6 := (HT.box 0).c 6
    have c7 := (HT.box 0).c 7
    have c8 := (HT.box 0).c 8
    have c9 := (HT.box 0).c 9
    have c10 := (HT.box 0).c 10
    have c11 := (HT.box 0).c 11
    obtain ⟨fs, hfs⟩ : ∃ fs, fs = fmtT a0 a1 a2 a3 a4 a5 a6 a7 a8 x y z := ⟨_, rfl⟩
    have HOF := Lib.hid (tr_of_fmt HOK.out hfs.symm)
    have HSZ := Lib.hid (show fs.size ≤ 1048576 by rw [hfs]; exact fmtT_small ..)
    have HFM : Hid (∀ w : World, Pow w → Calls Tryd.prog 13 #[tr a0 a1 a2 a3 a4 a5 a6 a7 a8 x y z] w (fun e w' => e = .returned (.string fs) ∧ Below w.heap.size w w')) := Lib.hid (fun w h => by rw [hfs]; exact formatTransform_any a0 a1 a2 a3 a4 a5 a6 a7 a8 x y z w h)
    clear hfs HOK
    go_wp2_with fail
    refine (HFM.out _ (HP.out.later HT.below)).mono ?_
    rintro e w6 ⟨rfl, hb6⟩
    have HT := HT.later hb6
    clear hb6 c0 c1 c2 c3 c4 c5 c6 c7 c8 c9 c10 c11 HFM
    go_wp2_with fail
    refine (parseTransform_any fs _ HSZ.out (HP.out.later HT.below) (HE.out.later HT.below)).mono ?_
    rintro e w7 ⟨h7, hb7⟩
    obtain rfl : e = .returned (.tuple #[tr a0 a1 a2 a3 a4 a5 a6 a7 a8 x y z, .bool true]) := by
      rcases h7 with ⟨b0, b1, b2, b3, b4, b5, b6, b7, b8, b9, b10, b11, e2, h⟩ | ⟨e2, h⟩
      · obtain ⟨hm, y9, y10, y11⟩ := trOf_inj HOF.out h
        simp only [List.cons.injEq, and_true] at hm
        obtain ⟨y0, y1, y2, y3, y4, y5, y6, y7, y8⟩ := hm
        rw [e2, y0, y1, y2, y3, y4, y5, y6, y7, y8, y9, y10, y11]
      · exact absurd HOF.out (h _ _ _ _)
    have HT := (HT.later hb7).new #[.int .i64 a0, .int .i64 a1, .int .i64 a2, .int .i64 a3, .int .i64 a4, .int .i64 a5, .int .i64 a6, .int .i64 a7, .int .i64 a8, .int .i64 x, .int .i64 y, .int .i64 z] 26
    clear hb7 h7 HOF HSZ HP HE
    obtain ⟨d0, d1, d2, E1, E2, E3, E4, E5⟩ := move_law p q r s0 s1 s2 HSV.out HSW.out
    have M1 := Lib.hid E1
    have M2 := Lib.hid E2
    have M3 := Lib.hid E3
    have M4 := Lib.hid E4
    have M5 := Lib.hid E5
    clear E1 E2 E3 E4 E5 HSV HSW
    have c0 := (HT.box 3).c 0
    have c1 := (HT.box 3).c 1
    have c2 := (HT.box 3).c 2
    go_wp2_with fail
    refine (M1.out _).mono ?_
    rintro e w8 ⟨rfl, hb8⟩
    have HT := (HT.later hb8).new #[.int .i64 d0, .int .i64 d1, .int .i64 d2] 24
    clear hb8 c0 c1 c2
    go_upto_region 10 with fail
    generalize w8.alloc _ = W at HT ⊢
    generalize w8.heap.size = k10 at HT ⊢
    generalize w7.heap.size = k8 at HT ⊢
    generalize w5.heap.size = k7 at HT ⊢
    generalize w4.heap.size = k6 at HT ⊢
    generalize w2.heap.size = k4 at HT ⊢
    generalize w1.heap.size = k3 at HT ⊢
    have HC : ∀ W, Held w W [(k10, [.int .i64 d0, .int .i64 d1, .int .i64 d2]), (k8, [.int .i64 a0, .int .i64 a1, .int .i64 a2, .int .i64 a3, .int .i64 a4, .int .i64 a5, .int .i64 a6, .int .i64 a7, .int .i64 a8, .int .i64 x, .int .i64 y, .int .i64 z]), (k7, [.int .i64 a0, .int .i64 a1, .int .i64 a2, .int .i64 a3, .int .i64 a4, .int .i64 a5, .int .i64 a6, .int .i64 a7, .int .i64 a8, .int .i64 x, .int .i64 y, .int .i64 z]), (k6, [.int .i64 m0, .int .i64 m1, .int .i64 m2, .int .i64 m3, .int .i64 m4, .int .i64 m5, .int .i64 m6, .int .i64 m7, .int .i64 m8, .int .i64 0, .int .i64 0, .int .i64 0]), (k4, [.int .i64 s0, .int .i64 s1, .int .i64 s2]), (k3, [.int .i64 p, .int .i64 q, .int .i64 r])] → (W.cell? ⟨k10, 0, none⟩ = some (.int .i64 d0) ∧ W.cell? ⟨k10, 1, none⟩ = some (.int .i64 d1) ∧ W.cell? ⟨k10, 2, none⟩ = some (.int .i64 d2) ∧ W.cell? ⟨k8, 0, none⟩ = some (.int .i64 a0) ∧ W.cell? ⟨k8, 1, none⟩ = some (.int .i64 a1) ∧ W.cell? ⟨k8, 2, none⟩ = some (.int .i64 a2) ∧ W.cell? ⟨k8, 3, none⟩ = some (.int .i64 a3) ∧ W.cell? ⟨k8, 4, none⟩ = some (.int .i64 a4) ∧ W.cell? ⟨k8, 5, none⟩ = some (.int .i64 a5) ∧ W.cell? ⟨k8, 6, none⟩ = some (.int .i64 a6) ∧ W.cell? ⟨k8, 7, none⟩ = some (.int .i64 a7) ∧ W.cell? ⟨k8, 8, none⟩ = some (.int .i64 a8) ∧ W.cell? ⟨k8, 9, none⟩ = some (.int .i64 x) ∧ W.cell? ⟨k8, 10, none⟩ = some (.int .i64 y) ∧ W.cell? ⟨k8, 11, none⟩ = some (.int .i64 z) ∧ W.cell? ⟨k7, 0, none⟩ = some (.int .i64 a0) ∧ W.cell? ⟨k7, 1, none⟩ = some (.int .i64 a1) ∧ W.cell? ⟨k7, 2, none⟩ = some (.int .i64 a2) ∧ W.cell? ⟨k7, 3, none⟩ = some (.int .i64 a3) ∧ W.cell? ⟨k7, 4, none⟩ = some (.int .i64 a4) ∧ W.cell? ⟨k7, 5, none⟩ = some (.int .i64 a5) ∧ W.cell? ⟨k7, 6, none⟩ = some (.int .i64 a6) ∧ W.cell? ⟨k7, 7, none⟩ = some (.int .i64 a7) ∧ W.cell? ⟨k7, 8, none⟩ = some (.int .i64 a8) ∧ W.cell? ⟨k7, 9, none⟩ = some (.int .i64 x) ∧ W.cell? ⟨k7, 10, none⟩ = some (.int .i64 y) ∧ W.cell? ⟨k7, 11, none⟩ = some (.int .i64 z) ∧ W.cell? ⟨k6, 0, none⟩ = some (.int .i64 m0) ∧ W.cell? ⟨k6, 1, none⟩ = some (.int .i64 m1) ∧ W.cell? ⟨k6, 2, none⟩ = some (.int .i64 m2) ∧ W.cell? ⟨k6, 3, none⟩ = some (.int .i64 m3) ∧ W.cell? ⟨k6, 4, none⟩ = some (.int .i64 m4) ∧ W.cell? ⟨k6, 5, none⟩ = some (.int .i64 m5) ∧ W.cell? ⟨k6, 6, none⟩ = some (.int .i64 m6) ∧ W.cell? ⟨k6, 7, none⟩ = some (.int .i64 m7) ∧ W.cell? ⟨k6, 8, none⟩ = some (.int .i64 m8) ∧ W.cell? ⟨k6, 9, none⟩ = some (.int .i64 0) ∧ W.cell? ⟨k6, 10, none⟩ = some (.int .i64 0) ∧ W.cell? ⟨k6, 11, none⟩ = some (.int .i64 0) ∧ W.cell? ⟨k4, 0, none⟩ = some (.int .i64 s0) ∧ W.cell? ⟨k4, 1, none⟩ = some (.int .i64 s1) ∧ W.cell? ⟨k4, 2, none⟩ = some (.int .i64 s2) ∧ W.cell? ⟨k3, 0, none⟩ = some (.int .i64 p) ∧ W.cell? ⟨k3, 1, none⟩ = some (.int .i64 q) ∧ W.cell? ⟨k3, 2, none⟩ = some (.int .i64 r)) := fun W h => ⟨(h.box 0).c 0, (h.box 0).c 1, (h.box 0).c 2, (h.box 1).c 0, (h.box 1).c 1, (h.box 1).c 2, (h.box 1).c 3, (h.box 1).c 4, (h.box 1).c 5, (h.box 1).c 6, (h.box 1).c 7, (h.box 1).c 8, (h.box 1).c 9, (h.box 1).c 10, (h.box 1).c 11, (h.box 2).c 0, (h.box 2).c 1, (h.box 2).c 2, (h.box 2).c 3, (h.box 2).c 4, (h.box 2).c 5, (h.box 2).c 6, (h.box 2).c 7, (h.box 2).c 8, (h.box 2).c 9, (h.box 2).c 10, (h.box 2).c 11, (h.box 3).c 0, (h.box 3).c 1, (h.box 3).c 2, (h.box 3).c 3, (h.box 3).c 4, (h.box 3).c 5, (h.box 3).c 6, (h.box 3).c 7, (h.box 3).c 8, (h.box 3).c 9, (h.box 3).c 10, (h.box 3).c 11, (h.box 4).c 0, (h.box 4).c 1, (h.box 4).c 2, (h.box 5).c 0, (h.box 5).c 1, (h.box 5).c 2⟩
    have e1 := veq_selfI p q r
    have e2 := veq_selfQ p q r
    have e3 := tr_selfI a0 a1 a2 a3 a4 a5 a6 a7 a8 x y z
    have e4 := tr_selfQ a0 a1 a2 a3 a4 a5 a6 a7 a8 x y z
    go_region_held3 (fun w' => w'.cell? ⟨k10, 0, none⟩ = some (.int .i64 d0) ∧ w'.cell? ⟨k10, 1, none⟩ = some (.int .i64 d1) ∧ w'.cell? ⟨k10, 2, none⟩ = some (.int .i64 d2) ∧ w'.cell? ⟨k8, 0, none⟩ = some (.int .i64 a0) ∧ w'.cell? ⟨k8, 1, none⟩ = some (.int .i64 a1) ∧ w'.cell? ⟨k8, 2, none⟩ = some (.int .i64 a2) ∧ w'.cell? ⟨k8, 3, none⟩ = some (.int .i64 a3) ∧ w'.cell? ⟨k8, 4, none⟩ = some (.int .i64 a4) ∧ w'.cell? ⟨k8, 5, none⟩ = some (.int .i64 a5) ∧ w'.cell? ⟨k8, 6, none⟩ = some (.int .i64 a6) ∧ w'.cell? ⟨k8, 7, none⟩ = some (.int .i64 a7) ∧ w'.cell? ⟨k8, 8, none⟩ = some (.int .i64 a8) ∧ w'.cell? ⟨k8, 9, none⟩ = some (.int .i64 x) ∧ w'.cell? ⟨k8, 10, none⟩ = some (.int .i64 y) ∧ w'.cell? ⟨k8, 11, none⟩ = some (.int .i64 z) ∧ w'.cell? ⟨k7, 0, none⟩ = some (.int .i64 a0) ∧ w'.cell? ⟨k7, 1, none⟩ = some (.int .i64 a1) ∧ w'.cell? ⟨k7, 2, none⟩ = some (.int .i64 a2) ∧ w'.cell? ⟨k7, 3, none⟩ = some (.int .i64 a3) ∧ w'.cell? ⟨k7, 4, none⟩ = some (.int .i64 a4) ∧ w'.cell? ⟨k7, 5, none⟩ = some (.int .i64 a5) ∧ w'.cell? ⟨k7, 6, none⟩ = some (.int .i64 a6) ∧ w'.cell? ⟨k7, 7, none⟩ = some (.int .i64 a7) ∧ w'.cell? ⟨k7, 8, none⟩ = some (.int .i64 a8) ∧ w'.cell? ⟨k7, 9, none⟩ = some (.int .i64 x) ∧ w'.cell? ⟨k7, 10, none⟩ = some (.int .i64 y) ∧ w'.cell? ⟨k7, 11, none⟩ = some (.int .i64 z) ∧ w'.cell? ⟨k6, 0, none⟩ = some (.int .i64 m0) ∧ w'.cell? ⟨k6, 1, none⟩ = some (.int .i64 m1) ∧ w'.cell? ⟨k6, 2, none⟩ = some (.int .i64 m2) ∧ w'.cell? ⟨k6, 3, none⟩ = some (.int .i64 m3) ∧ w'.cell? ⟨k6, 4, none⟩ = some (.int .i64 m4) ∧ w'.cell? ⟨k6, 5, none⟩ = some (.int .i64 m5) ∧ w'.cell? ⟨k6, 6, none⟩ = some (.int .i64 m6) ∧ w'.cell? ⟨k6, 7, none⟩ = some (.int .i64 m7) ∧ w'.cell? ⟨k6, 8, none⟩ = some (.int .i64 m8) ∧ w'.cell? ⟨k6, 9, none⟩ = some (.int .i64 0) ∧ w'.cell? ⟨k6, 10, none⟩ = some (.int .i64 0) ∧ w'.cell? ⟨k6, 11, none⟩ = some (.int .i64 0) ∧ w'.cell? ⟨k4, 0, none⟩ = some (.int .i64 s0) ∧ w'.cell? ⟨k4, 1, none⟩ = some (.int .i64 s1) ∧ w'.cell? ⟨k4, 2, none⟩ = some (.int .i64 s2) ∧ w'.cell? ⟨k3, 0, none⟩ = some (.int .i64 p) ∧ w'.cell? ⟨k3, 1, none⟩ = some (.int .i64 q) ∧ w'.cell? ⟨k3, 2, none⟩ = some (.int .i64 r))
      (first | (with_reducible exact HC _ HT) | (with_reducible exact HC _ HT.drew) | (with_reducible exact HC _ (HT.alloc _)) | (with_reducible exact HC _ (HT.drew.alloc _)) | (with_reducible exact HC _ (HT.alloc _).drew))
      (first | (go_at_call 11; (first | (with_reducible refine (G2.out _).mono ?_)); rintro e w1 ⟨rfl, hb1⟩; (first | (have HT := HT.later hb1) | (have HT := HT.drew.later hb1))) | (go_at_call 16; (first | (with_reducible refine (G3.out _).mono ?_) | (with_reducible refine (G4.out _).mono ?_) | (with_reducible refine (M5.out _).mono ?_)); rintro e w1 ⟨rfl, hb1⟩; (first | (have HT := HT.later hb1) | (have HT := HT.drew.later hb1))) | (go_at_call 17; (first | (with_reducible refine (M2.out _).mono ?_) | (with_reducible refine (M3.out _).mono ?_)); rintro e w1 ⟨rfl, hb1⟩; (first | (have HT := HT.later hb1) | (have HT := HT.drew.later hb1))) | (go_at_call 18; (first | (with_reducible refine (identity_any _).mono ?_)); rintro e w1 ⟨rfl, hb1⟩; (first | (have HT := HT.later hb1) | (have HT := HT.drew.later hb1))) | (go_at_call 15; (first | (with_reducible refine (G5.out _ _ _ (rowDrew (row4t _ _ _ _ _ _ _ _ _ _ _ _ _ _ _ _ _ _ _ _ _ _ _ _ _ _ _ _ _ _ _ _ _ _ _ _ _ _ _ _ _ _ _ _ _ _ _ _ _ ))).mono ?_) | (with_reducible refine (G5.out _ _ _ (row4t _ _ _ _ _ _ _ _ _ _ _ _ _ _ _ _ _ _ _ _ _ _ _ _ _ _ _ _ _ _ _ _ _ _ _ _ _ _ _ _ _ _ _ _ _ _ _ _ _ )).mono ?_) | (with_reducible refine (M4.out _ _ _ (rowDrew (row2t _ _ _ _ _ _ _ _ _ _ _ _ _ _ _ _ _ _ _ _ _ _ _ _ _ ))).mono ?_) | (with_reducible refine (M4.out _ _ _ (row2t _ _ _ _ _ _ _ _ _ _ _ _ _ _ _ _ _ _ _ _ _ _ _ _ _ )).mono ?_)); rintro e w1 ⟨rfl, hb1⟩; (first | (with_reducible have HT := (HT.alloc _).drew.later hb1) | (with_reducible have HT := (HT.alloc _).later hb1) | (with_reducible have HT := (HT.drew.alloc _).drew.later hb1) | (with_reducible have HT := (HT.drew.alloc _).later hb1))))
    clear e1 e2 e3 e4
    go_wp2_with fail
    go_ret
    exact ⟨rfl, HT.below⟩
  · go_enter Tryd.func4, Tryd.ntmps4
    go_wp2_with fail
    go_ret
    exact ⟨rfl, Below.refl _ _⟩

set_option maxRecDepth 100000 in
theorem contract (H : Type) (enc : TypeId × Value → H) (W : World) (base : Nat) (args : Array Value) (ds gs : List (DataW H)) (before : List MemPlace)
    (hval : ∀ (j : Nat) t v, Tryd.f4.params[j]? = some t → args[j]? = some v → Value.okWide Tryd.prog W .any base t v)
    (hW : DataW.Whole enc Tryd.prog Tryd.f4.params.toList Rows.fnTransformsSpec.vars false W args.toList ds gs before) (hL : laidMetH Tryd.prog Rows.fnTransformsRow.laid W) :
    Calls Tryd.prog 4 args W fun e W' => ∃ v, e = .returned v ∧ Rows.fnTransformsSpec.post enc Tryd.prog Tryd.f4 false true false false W args v W' := by
  have hW' := hW
  obtain ⟨p, q, hA0, hV, rfl, hfz, hnd⟩ := hW
  have hA : DataW.TrodAll enc Tryd.prog W 0 (fun _ => true) true Tryd.f4.params.toList args.toList ds p := hA0
  rw [Tryd.params4] at hA hval
  obtain ⟨v0, vs0, d0, ds0, p0, q0, hargs, rfl, rfl, h0, r1000⟩ := trodAll_cons hA
  obtain ⟨rfl, rfl, rfl⟩ := trodAll_nil r1000
  obtain rfl : args = #[v0] := by cases args; simp_all
  obtain ⟨rfl, rfl⟩ := trodVars_none hV
  obtain ⟨a0, len0, cap0, rfl⟩ := okWide_slice Tryd.underlying31 (hval 0 31 v0 rfl rfl)
  have k0 := h0
  have lt0 : ∀ x ∈ p0, x.block < W.heap.size := by obtain ⟨m, hm⟩ := k0; exact DataW.trod_lt m _ _ _ hm
  obtain ⟨x0, rfl, r0, m0, w0⟩ : ∃ xs : List Int, len0 = xs.length ∧ Row (Value.int .u8) W W.heap.size a0 xs ∧ xs.length ≤ maxLen ∧ ∀ x ∈ xs, (Lit.int .u8 x).wf = true := by
    obtain ⟨fuel, hf⟩ := h0
    rcases open_ints Tryd.underlying31 Tryd.underlying5 (by kernel_rfl) hf with ⟨hcs, _⟩ | ⟨x, l, c, zs, hcs, _, hl, hm, hz, _, hcell, hwz⟩
    · simp [Value.cells] at hcs
      obtain ⟨rfl, rfl, rfl⟩ := hcs
      exact ⟨[], rfl, Row.nil, Nat.zero_le _, fun x hx => by cases hx⟩
    · simp [Value.cells] at hcs
      obtain ⟨rfl, rfl, rfl⟩ := hcs
      exact row_of_cells (d := (0 : Int)) hl hm (by simpa using hz) hcell hwz
  clear hA0
  refine (walk W a0 cap0 x0 r0 m0 w0 (Lib.hid (pow_of _ (by kernel_rfl) hL)) (Lib.hid (errs_of _ (by kernel_rfl) (by kernel_rfl) hL))).mono fun e W' ⟨he, bel⟩ => ?_
  subst he
  exact ⟨_, rfl, _, _, _, [], _, [], hW', trodAll_mk1 (shut_bool Tryd.underlying4 _), (trodAll_cons_mk (Below.trod laidOut (by kernel_rfl) (of_decide_eq_true (by kernel_rfl)) k0 bel lt0) trodAll_mk0), rfl, bel.frame _, fun h => by cases h⟩

theorem laid_met (os : Os) : laidMet Tryd.prog Rows.fnTransformsRow.laid ((laidWorldE os).forCall (fun _ _ => 0) ⟨#[], #[.slice none 0 0], []⟩).memory :=
  laidMet_of_run' 8 (by kernel_rfl) (by kernel_rfl)
theorem reads (os : Os) {H : Type} (enc : TypeId × Value → H) : ∃ d places, DataW.whole enc Tryd.prog ((laidWorldE os).forCall (fun _ _ => 0) ⟨#[], #[.slice none 0 0], []⟩).memory Tryd.f4.params.toList Rows.fnTransformsSpec.vars false (#[.slice none 0 0] : Array Value).toList 8 = some (d, [], places) :=
  ⟨[.nil], [], by kernel_rfl⟩
set_option maxRecDepth 100000 in
theorem lifted (os : Os) (started : os.Started) (H : Type) (enc : TypeId × Value → H) (F : Stop.Interp) :
    ReturnsInHanded {} Tryd.checked os 4 .any ((OpenSpec.ofChange Rows.fnTransformsSpec).preRow enc Tryd.prog Tryd.f4 Rows.fnTransformsRow.domain false Rows.fnTransformsRow.laid) (((OpenSpec.ofChange Rows.fnTransformsSpec).at F).post enc Tryd.prog Tryd.f4 false true false false) := by
  obtain ⟨d, places, hx⟩ := reads os enc
  refine returnsInHanded_of_row (C := Tryd.checked) (s := OpenSpec.ofChange Rows.fnTransformsSpec) own started (by kernel_rfl) Tryd.func4
    (witness_row_atRef (enc := enc) (C := Tryd.checked) false (laidWorldE os) #[.slice none 0 0] rfl (by kernel_rfl) (by kernel_rfl) (by kernel_rfl)
      (OpenSpec.preRow_of_cond 8 hx (by kernel_rfl) (fun k hk => by cases hk) (by kernel_rfl) (laid_met os))) ?_
  intro W base args ds gs before hval hW _ _ _ hL _ _
  exact contract H enc W base args ds gs before hval hW hL
theorem said : Rows.FnTransformsSaid :=
  OpenClaim.holds_of_cond 4 Tryd.f4 rfl rfl rfl rfl rfl rfl rfl ⟨rfl, rfl, rfl, rfl, rfl⟩ rfl rfl rfl rfl rfl (by kernel_rfl) Tryd.func4 (by kernel_rfl)
    (of_decide_eq_true (by kernel_rfl)) (by unfold Func.isWrapper; first | (rw [if_pos (by decide +kernel)]; kernel_rfl) | (rw [if_neg (by decide +kernel)]; exact ⟨rfl, rfl⟩))
    (fun os started H enc _ F => by rw [OpenClaim.pre_eq_preRow]; exact lifted os started H enc F)
theorem plain (f : FuncId) (fn : Func) (hf : Tryd.pinned.checked.prog.funcNamed "loop.example/g00809/laws.FnTransforms" = some f) (hfn : Tryd.pinned.checked.prog.funcs[f]? = some fn) :
    true = Tryd.pinned.checked.prog.looks [] ∧ ∀ (j : Nat) t, fn.params[j]? = some t → Tryd.pinned.checked.prog.wantsStandIn t = false := by
  obtain rfl : f = 4 := Option.some.inj ((show Tryd.prog.funcNamed "loop.example/g00809/laws.FnTransforms" = some 4 by kernel_rfl).symm.trans hf) |>.symm
  obtain rfl : fn = Tryd.f4 := (Option.some.inj (Tryd.func4.symm.trans hfn)).symm
  refine ⟨by kernel_rfl, fun j t ht => ?_⟩
  rw [Tryd.params4] at ht
  have hm := Array.mem_of_getElem? ht
  simp only [List.mem_toArray, List.mem_cons, List.not_mem_nil, or_false] at hm
  rcases hm with rfl
  · exact (show Tryd.prog.wantsStandIn 31 = false by kernel_rfl)
theorem proved : Rows.FnTransformsCardSaid :=
  Claim7.holds_tied_plain_at .later [] _ _ _ _ said (fun _ h => by cases h) (by kernel_rfl) (fun _ h => by cases h) fnTransforms_row_tie rfl ⟨rfl, rfl⟩ (by kernel_rfl) rfl plain (by kernel_rfl)
#print axioms proved
end Go.Proofs.YtjflkapdnnecjaaDoor.fnTransforms
