/-
  Proved: the law FnMotion returns true for every input and its arguments read behind the call as they read before. Conditions: none of our own; those of the given row alone.
-/
import Derived.Test.YtbgpcgimmiinbaaRows
import Derived.WalkKit
import Derived.ProofKit
import Derived.OpenShut
import Derived.ShutString
import Derived.SliceStrings
import Derived.ChangeOld
import Derived.Below
import Derived.Test.YtbgpcgimmiinbaaMem
import Derived.Test.YtbgpcgimmiinbaaInts
import Derived.Test.YtbgpcgimmiinbaaIntS
import Derived.Test.YtbgpcgimmiinbaaCur
import Derived.Test.YtbgpcgimmiinbaaFlat
import Derived.Test.YtbgpcgimmiinbaaVbox
import Derived.Test.YtbgpcgimmiinbaaVec
import Derived.Test.YtbgpcgimmiinbaaVLerp
import Derived.Test.YtbgpcgimmiinbaaHeld
import Derived.Test.YtbgpcgimmiinbaaArr
import Derived.Test.YtbgpcgimmiinbaaTr
import Derived.Test.YtbgpcgimmiinbaaRowC
import Derived.Test.YtbgpcgimmiinbaaPat
import Derived.Test.YtbgpcgimmiinbaaPVal
import Derived.Test.YtbgpcgimmiinbaaCam
import Derived.Test.YtbgpcgimmiinbaaItp
import Derived.Test.YtbgpcgimmiinbaaBox
import Derived.Test.YtbgpcgimmiinbaaBUnion
import Derived.Test.YtbgpcgimmiinbaaBPts
import Derived.Test.YtbgpcgimmiinbaaBCont
import Derived.Test.YtbgpcgimmiinbaaPBd
import Derived.Test.YtbgpcgimmiinbaaVDraw
import Derived.Test.YtbgpcgimmiinbaaPDraw
import Derived.Test.YtbgpcgimmiinbaaMot
import Derived.Handy
import Derived.Deep.RegionHeld3
import Derived.Deep.DeepCutAuto
namespace Go.Proofs.Ytbgpcgimmiinbaa.fnMotion
open Go.ChangeShapes Go.WideShapes Go.ChangeAt Go.RowKit
open Go.ChangeMaps (open_string shut_string)
set_option linter.unusedVariables false

theorem own : ownKnob Try.prog.godebug = none := by kernel_rfl
theorem laidOut : laidOutB Try.prog = true := by kernel_rfl
set_option maxRecDepth 100000 in
set_option maxHeartbeats 8000000 in
theorem walk (w : World) (a0 : Option Addr) (c0 : Nat) (x0 : List Int) (r0 : Row (Value.int .u8) w w.heap.size a0 x0) (m0 : x0.length ≤ maxLen) (w0 : ∀ x ∈ x0, (Lit.int .u8 x).wf = true) :
    Calls Try.prog 4 #[.slice a0 x0.length c0] w fun e w' => e = .returned (.bool true) ∧ Below w.heap.size w w' := by
  have H8 : Hid (∀ x ∈ x0, 0 ≤ x ∧ x ≤ 255) := Lib.hid (fun x hx => bounds_u8 (w0 x hx))
  have HR : Hid (Row U8 w w.heap.size a0 x0) := Lib.hid r0
  clear w0 r0
  by_cases hbig : x0.length ≤ 1048576
  case neg =>
    go_enter Try.func4, Try.ntmps4
    go_wp2_with fail
    go_ret
    exact ⟨rfl, Below.refl _ _⟩
  case pos =>
    go_enter Try.func4, Try.ntmps4
    go_wp2_with fail
    refine (makePatch_any _ _ x0 _ _ HR.out H8.out hbig (by omega) (by omega)).mono ?_
    rintro e w1 ⟨s0, s1, s2, s3, s4, s5, s6, s7, s8, s9, s10, s11, hSA, rfl, hb1⟩
    have HT := ((Held.nil w).later hb1).new #[.int .i64 s0, .int .i64 s1, .int .i64 s2, .int .i64 s3, .int .i64 s4, .int .i64 s5, .int .i64 s6, .int .i64 s7, .int .i64 s8, .int .i64 s9, .int .i64 s10, .int .i64 s11] 40
    have HR1 := Lib.hid (HR.out.later HT.below)
    have HSA := Lib.hid hSA
    clear hb1 hSA
    go_wp2_with fail
    refine (makePatch_any _ _ x0 _ _ HR1.out H8.out hbig (by omega) (by omega)).mono ?_
    rintro e w2 ⟨b0, b1, b2, b3, b4, b5, b6, b7, b8, b9, b10, b11, hSB, rfl, hb2⟩
    have HT := (HT.later hb2).new #[.int .i64 b0, .int .i64 b1, .int .i64 b2, .int .i64 b3, .int .i64 b4, .int .i64 b5, .int .i64 b6, .int .i64 b7, .int .i64 b8, .int .i64 b9, .int .i64 b10, .int .i64 b11] 40
    have HR2 := Lib.hid (HR.out.later HT.below)
    have HSB := Lib.hid hSB
    clear hb2 hSB HR1
    go_wp2_with fail
    refine (makeNum_any _ _ x0 _ _ HR2.out H8.out hbig (by omega) (by omega)).mono ?_
    rintro e w3 ⟨n1, n1l, n1h, rfl, hb3⟩
    have HT := HT.later hb3
    clear hb3 HR2 HR H8
    go_upto_region 6 with fail
    obtain ⟨t, ht⟩ : ∃ t, t = n1 % 17 := ⟨_, rfl⟩
    rw [← ht]
    have bt : 0 ≤ t ∧ t ≤ 16 := by omega
    clear ht n1l n1h
    generalize w2.heap.size = kb at HT ⊢
    generalize w1.heap.size = ka at HT ⊢
    obtain ⟨m0, m1, m2, m3, m4, m5, m6, m7, m8, m9, m10, m11, q0, q1, q2, q3, q4, q5, p0, p1, p2, p3, p4, p5, z0, z1, z2, z3, z4, z5, E1, E2, E3, E4, E5, E6, E7⟩ := mot_law s0 s1 s2 s3 s4 s5 s6 s7 s8 s9 s10 s11 b0 b1 b2 b3 b4 b5 b6 b7 b8 b9 b10 b11 t bt HSA.out HSB.out
    have G1 := Lib.hid E1
    have G2 := Lib.hid E2
    have G3 := Lib.hid E3
    have G4 := Lib.hid E4
    have G5 := Lib.hid E5
    have G6 := Lib.hid E6
    have G7 := Lib.hid E7
    clear E1 E2 E3 E4 E5 E6 E7 HSA HSB bt
    have c0 := (HT.box 1).c 0
    have c1 := (HT.box 1).c 1
    have c2 := (HT.box 1).c 2
    have c3 := (HT.box 1).c 3
    have c4 := (HT.box 1).c 4
    have c5 := (HT.box 1).c 5
    have c6 := (HT.box 1).c 6
    have c7 := (HT.box 1).c 7
    have c8 := (HT.box 1).c 8
    have c9 := (HT.box 1).c 9
    have c10 := (HT.box 1).c 10
    have c11 := (HT.box 1).c 11
    have d0 := (HT.box 0).c 0
    have d1 := (HT.box 0).c 1
    have d2 := (HT.box 0).c 2
    have d3 := (HT.box 0).c 3
    have d4 := (HT.box 0).c 4
    have d5 := (HT.box 0).c 5
    have d6 := (HT.box 0).c 6
    have d7 := (HT.box 0).c 7
    have d8 := (HT.box 0).c 8
    have d9 := (HT.box 0).c 9
    have d10 := (HT.box 0).c 10
    have d11 := (HT.box 0).c 11
    go_wp2_with fail
    refine (G1.out _).mono ?_
    rintro e w4 ⟨rfl, hb4⟩
    have HT := (HT.later hb4).new #[.int .i64 m0, .int .i64 m1, .int .i64 m2, .int .i64 m3, .int .i64 m4, .int .i64 m5, .int .i64 m6, .int .i64 m7, .int .i64 m8, .int .i64 m9, .int .i64 m10, .int .i64 m11] 40
    clear hb4 c0 c1 c2 c3 c4 c5 c6 c7 c8 c9 c10 c11 d0 d1 d2 d3 d4 d5 d6 d7 d8 d9 d10 d11 G1
    go_upto_region 7 with fail
    obtain ⟨W4, hW4⟩ : ∃ W, W = w4.alloc (.cells #[.int .i64 m0, .int .i64 m1, .int .i64 m2, .int .i64 m3, .int .i64 m4, .int .i64 m5, .int .i64 m6, .int .i64 m7, .int .i64 m8, .int .i64 m9, .int .i64 m10, .int .i64 m11] 40) := ⟨_, rfl⟩
    rw [← hW4] at HT ⊢
    clear hW4
    generalize w4.heap.size = km at HT ⊢
    have HT : Held w W4 [(km, [.int .i64 m0, .int .i64 m1, .int .i64 m2, .int .i64 m3, .int .i64 m4, .int .i64 m5, .int .i64 m6, .int .i64 m7, .int .i64 m8, .int .i64 m9, .int .i64 m10, .int .i64 m11]), (kb, [.int .i64 b0, .int .i64 b1, .int .i64 b2, .int .i64 b3, .int .i64 b4, .int .i64 b5, .int .i64 b6, .int .i64 b7, .int .i64 b8, .int .i64 b9, .int .i64 b10, .int .i64 b11]), (ka, [.int .i64 s0, .int .i64 s1, .int .i64 s2, .int .i64 s3, .int .i64 s4, .int .i64 s5, .int .i64 s6, .int .i64 s7, .int .i64 s8, .int .i64 s9, .int .i64 s10, .int .i64 s11])] := HT
    have HC : ∀ W, Held w W [(km, [.int .i64 m0, .int .i64 m1, .int .i64 m2, .int .i64 m3, .int .i64 m4, .int .i64 m5, .int .i64 m6, .int .i64 m7, .int .i64 m8, .int .i64 m9, .int .i64 m10, .int .i64 m11]), (kb, [.int .i64 b0, .int .i64 b1, .int .i64 b2, .int .i64 b3, .int .i64 b4, .int .i64 b5, .int .i64 b6, .int .i64 b7, .int .i64 b8, .int .i64 b9, .int .i64 b10, .int .i64 b11]), (ka, [.int .i64 s0, .int .i64 s1, .int .i64 s2, .int .i64 s3, .int .i64 s4, .int .i64 s5, .int .i64 s6, .int .i64 s7, .int .i64 s8, .int .i64 s9, .int .i64 s10, .int .i64 s11])] → (W.cell? ⟨ka, 0, none⟩ = some (.int .i64 s0) ∧ W.cell? ⟨ka, 1, none⟩ = some (.int .i64 s1) ∧ W.cell? ⟨ka, 2, none⟩ = some (.int .i64 s2) ∧ W.cell? ⟨ka, 3, none⟩ = some (.int .i64 s3) ∧ W.cell? ⟨ka, 4, none⟩ = some (.int .i64 s4) ∧ W.cell? ⟨ka, 5, none⟩ = some (.int .i64 s5) ∧ W.cell? ⟨ka, 6, none⟩ = some (.int .i64 s6) ∧ W.cell? ⟨ka, 7, none⟩ = some (.int .i64 s7) ∧ W.cell? ⟨ka, 8, none⟩ = some (.int .i64 s8) ∧ W.cell? ⟨ka, 9, none⟩ = some (.int .i64 s9) ∧ W.cell? ⟨ka, 10, none⟩ = some (.int .i64 s10) ∧ W.cell? ⟨ka, 11, none⟩ = some (.int .i64 s11) ∧ W.cell? ⟨kb, 0, none⟩ = some (.int .i64 b0) ∧ W.cell? ⟨kb, 1, none⟩ = some (.int .i64 b1) ∧ W.cell? ⟨kb, 2, none⟩ = some (.int .i64 b2) ∧ W.cell? ⟨kb, 3, none⟩ = some (.int .i64 b3) ∧ W.cell? ⟨kb, 4, none⟩ = some (.int .i64 b4) ∧ W.cell? ⟨kb, 5, none⟩ = some (.int .i64 b5) ∧ W.cell? ⟨kb, 6, none⟩ = some (.int .i64 b6) ∧ W.cell? ⟨kb, 7, none⟩ = some (.int .i64 b7) ∧ W.cell? ⟨kb, 8, none⟩ = some (.int .i64 b8) ∧ W.cell? ⟨kb, 9, none⟩ = some (.int .i64 b9) ∧ W.cell? ⟨kb, 10, none⟩ = some (.int .i64 b10) ∧ W.cell? ⟨kb, 11, none⟩ = some (.int .i64 b11)) := fun W h => ⟨(h.box 2).c 0, (h.box 2).c 1, (h.box 2).c 2, (h.box 2).c 3, (h.box 2).c 4, (h.box 2).c 5, (h.box 2).c 6, (h.box 2).c 7, (h.box 2).c 8, (h.box 2).c 9, (h.box 2).c 10, (h.box 2).c 11, (h.box 1).c 0, (h.box 1).c 1, (h.box 1).c 2, (h.box 1).c 3, (h.box 1).c 4, (h.box 1).c 5, (h.box 1).c 6, (h.box 1).c 7, (h.box 1).c 8, (h.box 1).c 9, (h.box 1).c 10, (h.box 1).c 11⟩
    have hz0 := (HT.box 0).lt
    have hz1 := (HT.box 1).lt
    have hz2 := (HT.box 2).lt
    have hzs := HT.size
    go_cut [7] (fun s wx => ∃ gg : Nat, s = .pointer (some ⟨gg, 0, none⟩) ∧ Mbox wx gg [.int .i64 z0, .int .i64 z1, .int .i64 z2, .int .i64 z3, .int .i64 z4, .int .i64 z5] ∧ Held w wx [(km, [.int .i64 m0, .int .i64 m1, .int .i64 m2, .int .i64 m3, .int .i64 m4, .int .i64 m5, .int .i64 m6, .int .i64 m7, .int .i64 m8, .int .i64 m9, .int .i64 m10, .int .i64 m11]), (kb, [.int .i64 b0, .int .i64 b1, .int .i64 b2, .int .i64 b3, .int .i64 b4, .int .i64 b5, .int .i64 b6, .int .i64 b7, .int .i64 b8, .int .i64 b9, .int .i64 b10, .int .i64 b11]), (ka, [.int .i64 s0, .int .i64 s1, .int .i64 s2, .int .i64 s3, .int .i64 s4, .int .i64 s5, .int .i64 s6, .int .i64 s7, .int .i64 s8, .int .i64 s9, .int .i64 s10, .int .i64 s11])])
    case first =>
      go_region_held3 (fun w' => w'.cell? ⟨ka, 0, none⟩ = some (.int .i64 s0) ∧ w'.cell? ⟨ka, 1, none⟩ = some (.int .i64 s1) ∧ w'.cell? ⟨ka, 2, none⟩ = some (.int .i64 s2) ∧ w'.cell? ⟨ka, 3, none⟩ = some (.int .i64 s3) ∧ w'.cell? ⟨ka, 4, none⟩ = some (.int .i64 s4) ∧ w'.cell? ⟨ka, 5, none⟩ = some (.int .i64 s5) ∧ w'.cell? ⟨ka, 6, none⟩ = some (.int .i64 s6) ∧ w'.cell? ⟨ka, 7, none⟩ = some (.int .i64 s7) ∧ w'.cell? ⟨ka, 8, none⟩ = some (.int .i64 s8) ∧ w'.cell? ⟨ka, 9, none⟩ = some (.int .i64 s9) ∧ w'.cell? ⟨ka, 10, none⟩ = some (.int .i64 s10) ∧ w'.cell? ⟨ka, 11, none⟩ = some (.int .i64 s11) ∧ w'.cell? ⟨kb, 0, none⟩ = some (.int .i64 b0) ∧ w'.cell? ⟨kb, 1, none⟩ = some (.int .i64 b1) ∧ w'.cell? ⟨kb, 2, none⟩ = some (.int .i64 b2) ∧ w'.cell? ⟨kb, 3, none⟩ = some (.int .i64 b3) ∧ w'.cell? ⟨kb, 4, none⟩ = some (.int .i64 b4) ∧ w'.cell? ⟨kb, 5, none⟩ = some (.int .i64 b5) ∧ w'.cell? ⟨kb, 6, none⟩ = some (.int .i64 b6) ∧ w'.cell? ⟨kb, 7, none⟩ = some (.int .i64 b7) ∧ w'.cell? ⟨kb, 8, none⟩ = some (.int .i64 b8) ∧ w'.cell? ⟨kb, 9, none⟩ = some (.int .i64 b9) ∧ w'.cell? ⟨kb, 10, none⟩ = some (.int .i64 b10) ∧ w'.cell? ⟨kb, 11, none⟩ = some (.int .i64 b11))
        (first | (with_reducible exact HC _ HT) | (with_reducible exact HC _ HT.drew) | (with_reducible exact HC _ (HT.alloc _)) | (with_reducible exact HC _ (HT.alloc _).drew) | (with_reducible exact HC _ (HT.far6 (by omega) (by simp <;> omega) _ _ _ _ _ _)))
        (first | (go_at_call 17; (with_reducible refine (G2.out _).mono ?_); rintro e w1 ⟨rfl, hb1⟩; (first | (have HT := HT.later hb1) | (have HT := HT.drew.later hb1) | (have HT := (HT.alloc _).later hb1) | (have HT := (HT.alloc _).drew.later hb1)); have hzs := HT.size; have hz0 := (HT.box 0).lt; have hz1 := (HT.box 1).lt; have hz2 := (HT.box 2).lt; (first | (have HG := (Mbox.new6 _ (.int .i64 0) (.int .i64 0) (.int .i64 0) (.int .i64 0) (.int .i64 0) (.int .i64 0) 44).later hb1) | (have HG := (Mbox.new6 _ (.int .i64 0) (.int .i64 0) (.int .i64 0) (.int .i64 0) (.int .i64 0) (.int .i64 0) 44).drew.later hb1) | (have HG := HG.later hb1) | skip); (try simp only [World.size_alloc] at HG); (try (have hg0 := HG.c 0; have gg0 := HG.f 0; have hg1 := HG.c 1; have gg1 := HG.f 1; have hg2 := HG.c 2; have gg2 := HG.f 2; have hg3 := HG.c 3; have gg3 := HG.f 3; have hg4 := HG.c 4; have gg4 := HG.f 4; have hg5 := HG.c 5; have gg5 := HG.f 5))) | (go_at_call 17; (with_reducible refine (G3.out _).mono ?_); rintro e w1 ⟨rfl, hb1⟩; (first | (have HT := HT.later hb1) | (have HT := HT.drew.later hb1) | (have HT := (HT.alloc _).later hb1) | (have HT := (HT.alloc _).drew.later hb1)); have hzs := HT.size; have hz0 := (HT.box 0).lt; have hz1 := (HT.box 1).lt; have hz2 := (HT.box 2).lt; (first | (have HG := (Mbox.new6 _ (.int .i64 0) (.int .i64 0) (.int .i64 0) (.int .i64 0) (.int .i64 0) (.int .i64 0) 44).later hb1) | (have HG := (Mbox.new6 _ (.int .i64 0) (.int .i64 0) (.int .i64 0) (.int .i64 0) (.int .i64 0) (.int .i64 0) 44).drew.later hb1) | (have HG := HG.later hb1) | skip); (try simp only [World.size_alloc] at HG); (try (have hg0 := HG.c 0; have gg0 := HG.f 0; have hg1 := HG.c 1; have gg1 := HG.f 1; have hg2 := HG.c 2; have gg2 := HG.f 2; have hg3 := HG.c 3; have gg3 := HG.f 3; have hg4 := HG.c 4; have gg4 := HG.f 4; have hg5 := HG.c 5; have gg5 := HG.f 5))) | (go_at_call 16; (with_reducible refine (G4.out _).mono ?_); rintro e w1 ⟨rfl, hb1⟩; (first | (have HT := HT.later hb1) | (have HT := HT.drew.later hb1) | (have HT := (HT.alloc _).later hb1) | (have HT := (HT.alloc _).drew.later hb1)); have hzs := HT.size; have hz0 := (HT.box 0).lt; have hz1 := (HT.box 1).lt; have hz2 := (HT.box 2).lt; (first | (have HG := (Mbox.new6 _ (.int .i64 0) (.int .i64 0) (.int .i64 0) (.int .i64 0) (.int .i64 0) (.int .i64 0) 44).later hb1) | (have HG := (Mbox.new6 _ (.int .i64 0) (.int .i64 0) (.int .i64 0) (.int .i64 0) (.int .i64 0) (.int .i64 0) 44).drew.later hb1) | (have HG := HG.later hb1) | skip); (try simp only [World.size_alloc] at HG); (try (have hg0 := HG.c 0; have gg0 := HG.f 0; have hg1 := HG.c 1; have gg1 := HG.f 1; have hg2 := HG.c 2; have gg2 := HG.f 2; have hg3 := HG.c 3; have gg3 := HG.f 3; have hg4 := HG.c 4; have gg4 := HG.f 4; have hg5 := HG.c 5; have gg5 := HG.f 5))))
      all_goals (go_wp2_with fail; go_meet)
      all_goals (first | with_reducible exact ⟨_, rfl, Mbox.new6 _ _ _ _ _ _ _ _, HT.alloc _⟩ | with_reducible exact ⟨_, rfl, HG.put6 _ _ _ _ _ _, HT.far6 (by omega) (by simp <;> omega) _ _ _ _ _ _⟩)
    case rest =>
      clear HC HT hz0 hz1 hz2 hzs G2 G3 G4
      obtain ⟨g, rfl, HV, HT⟩ := hcut
      have HT := HT.cons HV
      clear HV
      have c0 := (HT.box 1).c 0
      have c1 := (HT.box 1).c 1
      have c2 := (HT.box 1).c 2
      have c3 := (HT.box 1).c 3
      have c4 := (HT.box 1).c 4
      have c5 := (HT.box 1).c 5
      have c6 := (HT.box 1).c 6
      have c7 := (HT.box 1).c 7
      have c8 := (HT.box 1).c 8
      have c9 := (HT.box 1).c 9
      have c10 := (HT.box 1).c 10
      have c11 := (HT.box 1).c 11
      go_wp2_with fail
      clear c0 c1 c2 c3 c4 c5 c6 c7 c8 c9 c10 c11
      have HT0 := Lib.hid HT
      clear HT
      go_loopw [31] (fun xi wr => ∃ k : Nat, k ≤ 4 ∧ xi = .int .i64 k ∧ Held w wr [(g, [.int .i64 z0, .int .i64 z1, .int .i64 z2, .int .i64 z3, .int .i64 z4, .int .i64 z5]), (km, [.int .i64 m0, .int .i64 m1, .int .i64 m2, .int .i64 m3, .int .i64 m4, .int .i64 m5, .int .i64 m6, .int .i64 m7, .int .i64 m8, .int .i64 m9, .int .i64 m10, .int .i64 m11]), (kb, [.int .i64 b0, .int .i64 b1, .int .i64 b2, .int .i64 b3, .int .i64 b4, .int .i64 b5, .int .i64 b6, .int .i64 b7, .int .i64 b8, .int .i64 b9, .int .i64 b10, .int .i64 b11]), (ka, [.int .i64 s0, .int .i64 s1, .int .i64 s2, .int .i64 s3, .int .i64 s4, .int .i64 s5, .int .i64 s6, .int .i64 s7, .int .i64 s8, .int .i64 s9, .int .i64 s10, .int .i64 s11])]) (fun xi _ => 4 - (intOf xi).toNat)
      case atStart => exact ⟨0, Nat.zero_le _, rfl, HT0.out⟩
      case round =>
        clear HT0
        obtain ⟨k, hk, rfl, HT⟩ := hrel
        by_cases hlt : k < 4
        · have hv := List.getElem?_eq_getElem (show k < ([(m0, m1, m2), (m3, m4, m5), (m6, m7, m8), (m9, m10, m11)] : List V3).length from hlt)
          generalize ([(m0, m1, m2), (m3, m4, m5), (m6, m7, m8), (m9, m10, m11)] : List V3)[k]'hlt = v at hv
          have hix := index_pat m0 m1 m2 m3 m4 m5 m6 m7 m8 m9 m10 m11 v k hv
          have HCN := Lib.hid (G5.out v (List.mem_of_getElem? hv))
          obtain ⟨v0, v1, v2⟩ := v
          dsimp only at hix HCN
          have hlt' : (k : Int) < 4 := by omega
          have hge' : (0 : Int) ≤ (k : Int) := by omega
          have HA := HT.alloc (.cells #[.int .i64 v0, .int .i64 v1, .int .i64 v2] 37)
          have c0 := (HA.box 0).c 0
          have c1 := (HA.box 0).c 1
          have c2 := (HA.box 0).c 2
          have c3 := (HA.box 0).c 3
          have c4 := (HA.box 0).c 4
          have c5 := (HA.box 0).c 5
          clear hv
          go_wp2_with fail
          refine (HCN.out _).mono ?_
          rintro e w5 ⟨rfl, hb5⟩
          have HT5 := Lib.hid (HA.later hb5)
          clear hb5 HA HT c0 c1 c2 c3 c4 c5 hix HCN
          go_wp2_with fail
          go_roundw
          case rel => exact ⟨k + 1, by omega, by go_num, HT5.out⟩
          case measure => simp [intOf]; omega
        · have e : k = 4 := by omega
          subst e
          clear hk hlt G5
          go_upto_region 14 with fail
          have HC : ∀ W, Held w W [(g, [.int .i64 z0, .int .i64 z1, .int .i64 z2, .int .i64 z3, .int .i64 z4, .int .i64 z5]), (km, [.int .i64 m0, .int .i64 m1, .int .i64 m2, .int .i64 m3, .int .i64 m4, .int .i64 m5, .int .i64 m6, .int .i64 m7, .int .i64 m8, .int .i64 m9, .int .i64 m10, .int .i64 m11]), (kb, [.int .i64 b0, .int .i64 b1, .int .i64 b2, .int .i64 b3, .int .i64 b4, .int .i64 b5, .int .i64 b6, .int .i64 b7, .int .i64 b8, .int .i64 b9, .int .i64 b10, .int .i64 b11]), (ka, [.int .i64 s0, .int .i64 s1, .int .i64 s2, .int .i64 s3, .int .i64 s4, .int .i64 s5, .int .i64 s6, .int .i64 s7, .int .i64 s8, .int .i64 s9, .int .i64 s10, .int .i64 s11])] → (W.cell? ⟨ka, 0, none⟩ = some (.int .i64 s0) ∧ W.cell? ⟨ka, 1, none⟩ = some (.int .i64 s1) ∧ W.cell? ⟨ka, 2, none⟩ = some (.int .i64 s2) ∧ W.cell? ⟨ka, 3, none⟩ = some (.int .i64 s3) ∧ W.cell? ⟨ka, 4, none⟩ = some (.int .i64 s4) ∧ W.cell? ⟨ka, 5, none⟩ = some (.int .i64 s5) ∧ W.cell? ⟨ka, 6, none⟩ = some (.int .i64 s6) ∧ W.cell? ⟨ka, 7, none⟩ = some (.int .i64 s7) ∧ W.cell? ⟨ka, 8, none⟩ = some (.int .i64 s8) ∧ W.cell? ⟨ka, 9, none⟩ = some (.int .i64 s9) ∧ W.cell? ⟨ka, 10, none⟩ = some (.int .i64 s10) ∧ W.cell? ⟨ka, 11, none⟩ = some (.int .i64 s11) ∧ W.cell? ⟨kb, 0, none⟩ = some (.int .i64 b0) ∧ W.cell? ⟨kb, 1, none⟩ = some (.int .i64 b1) ∧ W.cell? ⟨kb, 2, none⟩ = some (.int .i64 b2) ∧ W.cell? ⟨kb, 3, none⟩ = some (.int .i64 b3) ∧ W.cell? ⟨kb, 4, none⟩ = some (.int .i64 b4) ∧ W.cell? ⟨kb, 5, none⟩ = some (.int .i64 b5) ∧ W.cell? ⟨kb, 6, none⟩ = some (.int .i64 b6) ∧ W.cell? ⟨kb, 7, none⟩ = some (.int .i64 b7) ∧ W.cell? ⟨kb, 8, none⟩ = some (.int .i64 b8) ∧ W.cell? ⟨kb, 9, none⟩ = some (.int .i64 b9) ∧ W.cell? ⟨kb, 10, none⟩ = some (.int .i64 b10) ∧ W.cell? ⟨kb, 11, none⟩ = some (.int .i64 b11)) := fun W h => ⟨(h.box 3).c 0, (h.box 3).c 1, (h.box 3).c 2, (h.box 3).c 3, (h.box 3).c 4, (h.box 3).c 5, (h.box 3).c 6, (h.box 3).c 7, (h.box 3).c 8, (h.box 3).c 9, (h.box 3).c 10, (h.box 3).c 11, (h.box 2).c 0, (h.box 2).c 1, (h.box 2).c 2, (h.box 2).c 3, (h.box 2).c 4, (h.box 2).c 5, (h.box 2).c 6, (h.box 2).c 7, (h.box 2).c 8, (h.box 2).c 9, (h.box 2).c 10, (h.box 2).c 11⟩
          have e1 := pat_selfM s0 s1 s2 s3 s4 s5 s6 s7 s8 s9 s10 s11
          have e2 := pat_selfMI s0 s1 s2 s3 s4 s5 s6 s7 s8 s9 s10 s11
          have e3 := pat_selfM b0 b1 b2 b3 b4 b5 b6 b7 b8 b9 b10 b11
          have e4 := pat_selfMI b0 b1 b2 b3 b4 b5 b6 b7 b8 b9 b10 b11
          go_region_held3 (fun w' => w'.cell? ⟨ka, 0, none⟩ = some (.int .i64 s0) ∧ w'.cell? ⟨ka, 1, none⟩ = some (.int .i64 s1) ∧ w'.cell? ⟨ka, 2, none⟩ = some (.int .i64 s2) ∧ w'.cell? ⟨ka, 3, none⟩ = some (.int .i64 s3) ∧ w'.cell? ⟨ka, 4, none⟩ = some (.int .i64 s4) ∧ w'.cell? ⟨ka, 5, none⟩ = some (.int .i64 s5) ∧ w'.cell? ⟨ka, 6, none⟩ = some (.int .i64 s6) ∧ w'.cell? ⟨ka, 7, none⟩ = some (.int .i64 s7) ∧ w'.cell? ⟨ka, 8, none⟩ = some (.int .i64 s8) ∧ w'.cell? ⟨ka, 9, none⟩ = some (.int .i64 s9) ∧ w'.cell? ⟨ka, 10, none⟩ = some (.int .i64 s10) ∧ w'.cell? ⟨ka, 11, none⟩ = some (.int .i64 s11) ∧ w'.cell? ⟨kb, 0, none⟩ = some (.int .i64 b0) ∧ w'.cell? ⟨kb, 1, none⟩ = some (.int .i64 b1) ∧ w'.cell? ⟨kb, 2, none⟩ = some (.int .i64 b2) ∧ w'.cell? ⟨kb, 3, none⟩ = some (.int .i64 b3) ∧ w'.cell? ⟨kb, 4, none⟩ = some (.int .i64 b4) ∧ w'.cell? ⟨kb, 5, none⟩ = some (.int .i64 b5) ∧ w'.cell? ⟨kb, 6, none⟩ = some (.int .i64 b6) ∧ w'.cell? ⟨kb, 7, none⟩ = some (.int .i64 b7) ∧ w'.cell? ⟨kb, 8, none⟩ = some (.int .i64 b8) ∧ w'.cell? ⟨kb, 9, none⟩ = some (.int .i64 b9) ∧ w'.cell? ⟨kb, 10, none⟩ = some (.int .i64 b10) ∧ w'.cell? ⟨kb, 11, none⟩ = some (.int .i64 b11))
            (first | (with_reducible exact HC _ HT) | (with_reducible exact HC _ HT.drew))
            (first | (go_at_call 15; (first | (with_reducible refine (G6.out _).mono ?_) | (with_reducible refine (G7.out _).mono ?_)); rintro e w1 ⟨rfl, hb1⟩; (first | (have HT := HT.later hb1) | (have HT := HT.drew.later hb1))))
          clear e1 e2 e3 e4
          go_wp2_with fail
          go_ret
          exact ⟨rfl, HT.below⟩

set_option maxRecDepth 100000 in
theorem lifted (os : Os) (started : os.Started) (H : Type) (enc : TypeId × Value → H) :
    ReturnsInHanded {} Try.checked os 4 .any (Rows.fnMotionSpec.pre6 enc Try.prog Try.f4 Rows.fnMotionRow.domain false) (Rows.fnMotionSpec.post enc Try.prog Try.f4 false true false false) := by
  refine returnsInHanded_of_change (C := Try.checked) own started (by kernel_rfl) Try.func4
    (ChangeSpec.witness6 (enc := enc) (C := Try.checked) false ⟨#[], #[.slice none 0 0], []⟩ 8 (by kernel_rfl) (by kernel_rfl) (by kernel_rfl) (by kernel_rfl)) ?_
  intro W base args ds gs before hval0 hW hcnd _
  have hval : ∀ (j : Nat) t v, Try.f4.params[j]? = some t → args[j]? = some v → Value.okWide Try.prog W .any base t v := hval0
  have hW' := hW
  obtain ⟨p, q, hA0, hV, rfl, hfz, hnd⟩ := hW
  have hA : DataW.TrodAll enc Try.prog W 0 (fun _ => true) true Try.f4.params.toList args.toList ds p := hA0
  rw [Try.params4] at hA hval
  obtain ⟨v0, vs0, d0, ds0, p0, q0, hargs, rfl, rfl, h0, r1000⟩ := trodAll_cons hA
  obtain ⟨rfl, rfl, rfl⟩ := trodAll_nil r1000
  obtain rfl : args = #[v0] := by cases args; simp_all
  obtain ⟨rfl, rfl⟩ := trodVars_none hV
  obtain ⟨a0, len0, cap0, rfl⟩ := okWide_slice Try.underlying22 (hval 0 22 v0 rfl rfl)
  have k0 := h0
  have lt0 : ∀ x ∈ p0, x.block < W.heap.size := by obtain ⟨m, hm⟩ := k0; exact DataW.trod_lt m _ _ _ hm
  obtain ⟨x0, rfl, r0, m0, w0⟩ : ∃ xs : List Int, len0 = xs.length ∧ Row (Value.int .u8) W W.heap.size a0 xs ∧ xs.length ≤ maxLen ∧ ∀ x ∈ xs, (Lit.int .u8 x).wf = true := by
    obtain ⟨fuel, hf⟩ := h0
    rcases open_ints Try.underlying22 Try.underlying5 (by kernel_rfl) hf with ⟨hcs, _⟩ | ⟨x, l, c, zs, hcs, _, hl, hm, hz, _, hcell, hwz⟩
    · simp [Value.cells] at hcs
      obtain ⟨rfl, rfl, rfl⟩ := hcs
      exact ⟨[], rfl, Row.nil, Nat.zero_le _, fun x hx => by cases hx⟩
    · simp [Value.cells] at hcs
      obtain ⟨rfl, rfl, rfl⟩ := hcs
      exact row_of_cells (d := (0 : Int)) hl hm (by simpa using hz) hcell hwz
  clear hA0
  refine (walk W a0 cap0 x0 r0 m0 w0).mono fun e W' ⟨he, bel⟩ => ?_
  subst he
  exact ⟨_, rfl, _, _, _, [], _, [], hW', trodAll_mk1 (shut_bool Try.underlying4 _), (trodAll_cons_mk (Below.trod laidOut (by kernel_rfl) (of_decide_eq_true (by kernel_rfl)) k0 bel lt0) trodAll_mk0), rfl, bel.frame _, fun h => by cases h⟩

theorem proved : Rows.FnMotionSaid :=
  OpenClaim.holds_of_wide 4 Try.f4 rfl rfl rfl rfl rfl rfl rfl ⟨rfl, rfl, rfl, rfl, rfl⟩ rfl rfl rfl rfl rfl (by kernel_rfl) Try.func4 (by kernel_rfl)
    (of_decide_eq_true (by kernel_rfl)) (by unfold Func.isWrapper; first | (rw [if_pos (by decide +kernel)]; kernel_rfl) | (rw [if_neg (by decide +kernel)]; exact ⟨rfl, rfl⟩))
    (fun os started H enc _ => lifted os started H enc)
#print axioms proved
end Go.Proofs.Ytbgpcgimmiinbaa.fnMotion
