/-
  Proved: the law FnDepth returns true for every input and its arguments read behind the call as they read before. Conditions: none of our own; those of the given row alone.
-/
import Derived.Test.YtjjafbcfmijppaaRows
import Derived.WalkKit
import Derived.ProofKit
import Derived.OpenShut
import Derived.ShutString
import Derived.SliceStrings
import Derived.ChangeOld
import Derived.Below
import Derived.Test.YtjjafbcfmijppaaMem
import Derived.Test.YtjjafbcfmijppaaInts
import Derived.Test.YtjjafbcfmijppaaIntS
import Derived.Test.YtjjafbcfmijppaaCur
import Derived.Test.YtjjafbcfmijppaaFlat
import Derived.Test.YtjjafbcfmijppaaVbox
import Derived.Test.YtjjafbcfmijppaaVec
import Derived.Test.YtjjafbcfmijppaaHeld
import Derived.Test.YtjjafbcfmijppaaArr
import Derived.Test.YtjjafbcfmijppaaTr
import Derived.Test.YtjjafbcfmijppaaRowC
import Derived.Test.YtjjafbcfmijppaaPat
import Derived.Test.YtjjafbcfmijppaaCam
import Derived.Test.YtjjafbcfmijppaaCPrj
import Derived.Test.YtjjafbcfmijppaaTri
import Derived.Test.YtjjafbcfmijppaaTCl
import Derived.Test.YtjjafbcfmijppaaTEd
import Derived.Test.YtjjafbcfmijppaaTSd
import Derived.Test.YtjjafbcfmijppaaTAr
import Derived.Test.YtjjafbcfmijppaaTPu
import Derived.Test.YtjjafbcfmijppaaTCo
import Derived.Test.YtjjafbcfmijppaaTDs
import Derived.Test.YtjjafbcfmijppaaTDe
import Derived.Test.YtjjafbcfmijppaaBox
import Derived.Test.YtjjafbcfmijppaaBPts
import Derived.Test.YtjjafbcfmijppaaTBd
import Derived.Test.YtjjafbcfmijppaaTDr
import Derived.Test.YtjjafbcfmijppaaTAt
import Derived.Handy
import Derived.Deep.RegionHeld3
import Derived.BigQuiet
import Derived.Deep.QuietTactic
namespace Go.Proofs.Ytjjafbcfmijppaa.fnDepth
open Go.ChangeShapes Go.WideShapes Go.ChangeAt Go.RowKit
open Go.ChangeMaps (open_string shut_string)
set_option linter.unusedVariables false

theorem own : ownKnob Try.prog.godebug = none := by kernel_rfl
theorem laidOut : laidOutB Try.prog = true := by kernel_rfl
theorem z_lo (a0 a1 a2 a3 a4 a5 a6 a7 a8 : Int) (h : cor a0 a1 a2 ∧ cor a3 a4 a5 ∧ cor a6 a7 a8) : 0 < tbV 2 a0 a1 a2 a3 a4 a5 a6 a7 a8 ∧ (tbV 2 a0 a1 a2 a3 a4 a5 a6 a7 a8 ≤ cc a2 ∧ cc a2 ≤ tbV 5 a0 a1 a2 a3 a4 a5 a6 a7 a8) ∧ (tbV 2 a0 a1 a2 a3 a4 a5 a6 a7 a8 ≤ cc a5 ∧ cc a5 ≤ tbV 5 a0 a1 a2 a3 a4 a5 a6 a7 a8) ∧ (tbV 2 a0 a1 a2 a3 a4 a5 a6 a7 a8 ≤ cc a8 ∧ cc a8 ≤ tbV 5 a0 a1 a2 a3 a4 a5 a6 a7 a8) := by
  unfold cor at h
  have e2 : cc a2 = a2 := cc_in (by omega) (by omega)
  have e5 : cc a5 = a5 := cc_in (by omega) (by omega)
  have e8 : cc a8 = a8 := cc_in (by omega) (by omega)
  show 0 < mnP (mnP (cc (cc a2)) (cc (cc a5))) (cc (cc a8)) ∧ (mnP (mnP (cc (cc a2)) (cc (cc a5))) (cc (cc a8)) ≤ cc a2 ∧ cc a2 ≤ mxP (mxP (cc (cc a2)) (cc (cc a5))) (cc (cc a8))) ∧ (mnP (mnP (cc (cc a2)) (cc (cc a5))) (cc (cc a8)) ≤ cc a5 ∧ cc a5 ≤ mxP (mxP (cc (cc a2)) (cc (cc a5))) (cc (cc a8))) ∧ (mnP (mnP (cc (cc a2)) (cc (cc a5))) (cc (cc a8)) ≤ cc a8 ∧ cc a8 ≤ mxP (mxP (cc (cc a2)) (cc (cc a5))) (cc (cc a8)))
  simp only [cc_cc]
  rw [e2, e5, e8]
  unfold mnP mxP
  refine ⟨?_, ⟨?_, ?_⟩, ⟨?_, ?_⟩, ?_, ?_⟩ <;> (repeat' split) <;> omega
set_option maxRecDepth 100000 in
set_option maxHeartbeats 20000000 in
theorem walk (w : World) (a0 : Option Addr) (c0 : Nat) (x0 : List Int) (r0 : Row (Value.int .u8) w w.heap.size a0 x0) (m0 : x0.length ≤ maxLen) (w0 : ∀ x ∈ x0, (Lit.int .u8 x).wf = true) :
    Calls Try.prog 4 #[.slice a0 x0.length c0] w fun e w' => e = .returned (.bool true) ∧ Below w.heap.size w w' := by
  have H8 : Hid (∀ x ∈ x0, 0 ≤ x ∧ x ≤ 255) := Lib.hid (fun x hx => bounds_u8 (w0 x hx))
  have HR : Hid (Row U8 w w.heap.size a0 x0) := Lib.hid r0
  clear w0 r0
  by_cases hbig : x0.length ≤ 1048576
  · go_enter Try.func4, Try.ntmps4
    go_wp2_with fail
    refine (makeTri_any _ _ x0 _ HR.out H8.out hbig).mono ?_
    rintro e w1 ⟨a0, a1, a2, a3, a4, a5, a6, a7, a8, p, q, x, y, hv, rfl, hb1⟩
    have HT : Held w (((w1.alloc (.cells #[.int .i64 a0, .int .i64 a1, .int .i64 a2, .int .i64 a3, .int .i64 a4, .int .i64 a5, .int .i64 a6, .int .i64 a7, .int .i64 a8] 27)).alloc (.cells #[.int .i64 p, .int .i64 q, .int .i64 0] 24)).alloc (.cells #[.int .i64 x, .int .i64 y, .int .i64 0] 24)) [(w1.heap.size + 1 + 1, [.int .i64 x, .int .i64 y, .int .i64 0]), (w1.heap.size + 1, [.int .i64 p, .int .i64 q, .int .i64 0]), (w1.heap.size, [.int .i64 a0, .int .i64 a1, .int .i64 a2, .int .i64 a3, .int .i64 a4, .int .i64 a5, .int .i64 a6, .int .i64 a7, .int .i64 a8])] := by
      have h := ((((Held.nil w).later hb1).new #[.int .i64 a0, .int .i64 a1, .int .i64 a2, .int .i64 a3, .int .i64 a4, .int .i64 a5, .int .i64 a6, .int .i64 a7, .int .i64 a8] 27).new #[.int .i64 p, .int .i64 q, .int .i64 0] 24).new #[.int .i64 x, .int .i64 y, .int .i64 0] 24
      simpa only [World.size_alloc] using h
    have hs1 := hb1.size
    clear H8 HR hbig hb1
    go_upto_region 4 with fail
    obtain ⟨W1, hW1⟩ : ∃ W, W = ((w1.alloc (.cells #[.int .i64 a0, .int .i64 a1, .int .i64 a2, .int .i64 a3, .int .i64 a4, .int .i64 a5, .int .i64 a6, .int .i64 a7, .int .i64 a8] 27)).alloc (.cells #[.int .i64 p, .int .i64 q, .int .i64 0] 24)).alloc (.cells #[.int .i64 x, .int .i64 y, .int .i64 0] 24) := ⟨_, rfl⟩
    rw [← hW1] at HT ⊢
    clear hW1
    generalize w1.heap.size = k1 at HT hs1 ⊢
    have i0 : inS a0 ∧ inS a1 := by obtain ⟨h, _, _⟩ := hv; unfold cor at h; unfold inS; omega
    have i1 : inS a3 ∧ inS a4 := by obtain ⟨_, h, _⟩ := hv; unfold cor at h; unfold inS; omega
    have i2 : inS a6 ∧ inS a7 := by obtain ⟨_, _, h⟩ := hv; unfold cor at h; unfold inS; omega
    obtain ⟨kk, ek⟩ : ∃ k, k = covP a0 a1 a3 a4 a6 a7 p q := ⟨_, rfl⟩
    obtain ⟨zz, ez⟩ : ∃ z, z = dpV kk (depP a0 a1 a2 a3 a4 a5 a6 a7 a8 p q) := ⟨_, rfl⟩
    have HD1 : ∀ w : World, Calls Try.prog 14 #[mat a0 a1 a2 a3 a4 a5 a6 a7 a8, .int .i64 p, .int .i64 q] w (fun e w' => e = .returned (.tuple #[.int .i64 zz, .bool kk]) ∧ Below w.heap.size w w') := fun w => by
      have h := depthAt_any a0 a1 a2 a3 a4 a5 a6 a7 a8 p q w
      rw [← ek] at h
      rw [ez]
      exact h
    have HD2 : ∀ w : World, Calls Try.prog 14 #[mat a0 a1 a2 a6 a7 a8 a3 a4 a5, .int .i64 p, .int .i64 q] w (fun e w' => e = .returned (.tuple #[.int .i64 zz, .bool kk]) ∧ Below w.heap.size w w') := fun w => by
      have h := depthAt_any a0 a1 a2 a6 a7 a8 a3 a4 a5 p q w
      rw [cov_flip i0 i1 i2, dep_flip, ← ek] at h
      rw [ez]
      exact h
    have HCv : ∀ w : World, Calls Try.prog 12 #[mat a0 a1 a2 a3 a4 a5 a6 a7 a8, .int .i64 p, .int .i64 q] w (BOut kk w) := fun w => by rw [ek]; exact covers_any a0 a1 a2 a3 a4 a5 a6 a7 a8 p q w
    obtain ⟨nn, en⟩ : ∃ n, n = arP a0 a1 a3 a4 a6 a7 := ⟨_, rfl⟩
    have HA1 : ∀ w : World, Calls Try.prog 16 #[mat a0 a1 a2 a3 a4 a5 a6 a7 a8] w (IntOut nn w) := fun w => by rw [en]; exact signedArea2_any a0 a1 a2 a3 a4 a5 a6 a7 a8 w
    have bn := ar_bd a0 a1 a3 a4 a6 a7
    rw [← en] at bn
    have HA2 : ∀ w : World, Calls Try.prog 16 #[mat a0 a1 a2 a6 a7 a8 a3 a4 a5] w (IntOut (-nn) w) := fun w => by
      have h := signedArea2_any a0 a1 a2 a6 a7 a8 a3 a4 a5 w
      rw [show arP a0 a1 a6 a7 a3 a4 = -nn by rw [en]; unfold arP; exact sd_flip ..] at h
      exact h
    obtain ⟨q0, f0⟩ : ∃ q, q = tbV 0 a0 a1 a2 a3 a4 a5 a6 a7 a8 := ⟨_, rfl⟩
    obtain ⟨q1, f1⟩ : ∃ q, q = tbV 1 a0 a1 a2 a3 a4 a5 a6 a7 a8 := ⟨_, rfl⟩
    obtain ⟨q2, f2⟩ : ∃ q, q = tbV 2 a0 a1 a2 a3 a4 a5 a6 a7 a8 := ⟨_, rfl⟩
    obtain ⟨q3, f3⟩ : ∃ q, q = tbV 3 a0 a1 a2 a3 a4 a5 a6 a7 a8 := ⟨_, rfl⟩
    obtain ⟨q4, f4⟩ : ∃ q, q = tbV 4 a0 a1 a2 a3 a4 a5 a6 a7 a8 := ⟨_, rfl⟩
    obtain ⟨q5, f5⟩ : ∃ q, q = tbV 5 a0 a1 a2 a3 a4 a5 a6 a7 a8 := ⟨_, rfl⟩
    have HTB : ∀ w : World, Calls Try.prog 15 #[mat a0 a1 a2 a3 a4 a5 a6 a7 a8] w (BoxOut q0 q1 q2 q3 q4 q5 w) := fun w => by rw [f0, f1, f2, f3, f4, f5]; exact triangleBounds_any a0 a1 a2 a3 a4 a5 a6 a7 a8 w
    obtain ⟨l0, l1, l2, l3⟩ := z_lo a0 a1 a2 a3 a4 a5 a6 a7 a8 hv
    rw [← f2, ← f5] at l1 l2 l3
    rw [← f2] at l0
    have HZ : kk = true → q2 ≤ zz ∧ zz ≤ q5 := fun h => by
      rw [ez, h]
      exact dep_bd i0 i1 i2 (ek.symm.trans h) l1 l2 l3
    have nneg : IntKind.i64.wrap (- -nn) = nn := by rw [Int.neg_neg]; exact wrap_in (by omega)
    have nnw : IntKind.i64.wrap nn = nn := wrap_in (by omega)
    clear f0 f1 f2 f3 f4 f5 l1 l2 l3 en ez ek i0 i1 i2 hv bn
    have HD1 := Lib.hid HD1
    have HD2 := Lib.hid HD2
    have HCv := Lib.hid HCv
    have HA1 := Lib.hid HA1
    have HA2 := Lib.hid HA2
    have HTB := Lib.hid HTB
    have HZ := Lib.hid HZ
    have HL := Lib.hid l0
    have HS1 := Lib.hid hs1
    clear l0 hs1
    have c0 := (HT.box 2).c 0
    have c1 := (HT.box 2).c 1
    have c2 := (HT.box 2).c 2
    have c3 := (HT.box 2).c 3
    have c4 := (HT.box 2).c 4
    have c5 := (HT.box 2).c 5
    have c6 := (HT.box 2).c 6
    have c7 := (HT.box 2).c 7
    have c8 := (HT.box 2).c 8
    have d0 := (HT.box 1).c 0
    have d1 := (HT.box 1).c 1
    have d2 := (HT.box 1).c 2
    go_wp2_with fail
    refine (HD1.out _).mono ?_
    rintro e w2 ⟨rfl, hb2⟩
    have HT := HT.later hb2
    clear hb2 c0 c1 c2 c3 c4 c5 c6 c7 c8 d0 d1 d2
    have HC : ∀ W, Held w W [(k1 + 1 + 1, [.int .i64 x, .int .i64 y, .int .i64 0]), (k1 + 1, [.int .i64 p, .int .i64 q, .int .i64 0]), (k1, [.int .i64 a0, .int .i64 a1, .int .i64 a2, .int .i64 a3, .int .i64 a4, .int .i64 a5, .int .i64 a6, .int .i64 a7, .int .i64 a8])] → (W.cell? ⟨k1, 0, none⟩ = some (.int .i64 a0) ∧ W.cell? ⟨k1, 1, none⟩ = some (.int .i64 a1) ∧ W.cell? ⟨k1, 2, none⟩ = some (.int .i64 a2) ∧ W.cell? ⟨k1, 3, none⟩ = some (.int .i64 a3) ∧ W.cell? ⟨k1, 4, none⟩ = some (.int .i64 a4) ∧ W.cell? ⟨k1, 5, none⟩ = some (.int .i64 a5) ∧ W.cell? ⟨k1, 6, none⟩ = some (.int .i64 a6) ∧ W.cell? ⟨k1, 7, none⟩ = some (.int .i64 a7) ∧ W.cell? ⟨k1, 8, none⟩ = some (.int .i64 a8) ∧ W.cell? ⟨k1 + 1, 0, none⟩ = some (.int .i64 p) ∧ W.cell? ⟨k1 + 1, 1, none⟩ = some (.int .i64 q) ∧ W.cell? ⟨k1 + 1, 2, none⟩ = some (.int .i64 0)) := fun W h => ⟨(h.box 2).c 0, (h.box 2).c 1, (h.box 2).c 2, (h.box 2).c 3, (h.box 2).c 4, (h.box 2).c 5, (h.box 2).c 6, (h.box 2).c 7, (h.box 2).c 8, (h.box 1).c 0, (h.box 1).c 1, (h.box 1).c 2⟩
    go_wp2_with fail
    go_region_held3 (fun w' => w'.cell? ⟨k1, 0, none⟩ = some (.int .i64 a0) ∧ w'.cell? ⟨k1, 1, none⟩ = some (.int .i64 a1) ∧ w'.cell? ⟨k1, 2, none⟩ = some (.int .i64 a2) ∧ w'.cell? ⟨k1, 3, none⟩ = some (.int .i64 a3) ∧ w'.cell? ⟨k1, 4, none⟩ = some (.int .i64 a4) ∧ w'.cell? ⟨k1, 5, none⟩ = some (.int .i64 a5) ∧ w'.cell? ⟨k1, 6, none⟩ = some (.int .i64 a6) ∧ w'.cell? ⟨k1, 7, none⟩ = some (.int .i64 a7) ∧ w'.cell? ⟨k1, 8, none⟩ = some (.int .i64 a8) ∧ w'.cell? ⟨k1 + 1, 0, none⟩ = some (.int .i64 p) ∧ w'.cell? ⟨k1 + 1, 1, none⟩ = some (.int .i64 q) ∧ w'.cell? ⟨k1 + 1, 2, none⟩ = some (.int .i64 0))
      (first | (with_reducible exact HC _ HT) | (with_reducible exact HC _ HT.drew))
      (first | (go_at_call 13; (with_reducible refine (flipTriangle_any _ _ _ _ _ _ _ _ _ _).mono ?_); rintro e w1 ⟨rfl, hb1⟩; (first | (have HT := HT.later hb1) | (have HT := HT.drew.later hb1))) | (go_at_call 14; (with_reducible refine (HD2.out _).mono ?_); rintro e w1 ⟨rfl, hb1⟩; (first | (have HT := HT.later hb1) | (have HT := HT.drew.later hb1))))
    clear HC
    have c0 := (HT.box 2).c 0
    have c1 := (HT.box 2).c 1
    have c2 := (HT.box 2).c 2
    have c3 := (HT.box 2).c 3
    have c4 := (HT.box 2).c 4
    have c5 := (HT.box 2).c 5
    have c6 := (HT.box 2).c 6
    have c7 := (HT.box 2).c 7
    have c8 := (HT.box 2).c 8
    go_wp2_with fail
    refine (HTB.out _).mono ?_
    rintro e w3 ⟨rfl, hb3⟩
    have HT := (HT.later hb3).new #[.int .i64 q0, .int .i64 q1, .int .i64 q2, .int .i64 q3, .int .i64 q4, .int .i64 q5] 36
    clear hb3 c0 c1 c2 c3 c4 c5 c6 c7 c8 HTB HD1 HD2
    go_upto_region 7 with fail
    obtain ⟨W4, hW4⟩ : ∃ W, W = w3.alloc (.cells #[.int .i64 q0, .int .i64 q1, .int .i64 q2, .int .i64 q3, .int .i64 q4, .int .i64 q5] 36) := ⟨_, rfl⟩
    rw [← hW4] at HT ⊢
    clear hW4
    generalize w3.heap.size = k3 at HT ⊢
    have HC : ∀ W, Held w W [(k3, [.int .i64 q0, .int .i64 q1, .int .i64 q2, .int .i64 q3, .int .i64 q4, .int .i64 q5]), (k1 + 1 + 1, [.int .i64 x, .int .i64 y, .int .i64 0]), (k1 + 1, [.int .i64 p, .int .i64 q, .int .i64 0]), (k1, [.int .i64 a0, .int .i64 a1, .int .i64 a2, .int .i64 a3, .int .i64 a4, .int .i64 a5, .int .i64 a6, .int .i64 a7, .int .i64 a8])] → (W.cell? ⟨k1, 0, none⟩ = some (.int .i64 a0) ∧ W.cell? ⟨k1, 1, none⟩ = some (.int .i64 a1) ∧ W.cell? ⟨k1, 2, none⟩ = some (.int .i64 a2) ∧ W.cell? ⟨k1, 3, none⟩ = some (.int .i64 a3) ∧ W.cell? ⟨k1, 4, none⟩ = some (.int .i64 a4) ∧ W.cell? ⟨k1, 5, none⟩ = some (.int .i64 a5) ∧ W.cell? ⟨k1, 6, none⟩ = some (.int .i64 a6) ∧ W.cell? ⟨k1, 7, none⟩ = some (.int .i64 a7) ∧ W.cell? ⟨k1, 8, none⟩ = some (.int .i64 a8) ∧ W.cell? ⟨k1 + 1, 0, none⟩ = some (.int .i64 p) ∧ W.cell? ⟨k1 + 1, 1, none⟩ = some (.int .i64 q) ∧ W.cell? ⟨k1 + 1, 2, none⟩ = some (.int .i64 0) ∧ W.cell? ⟨k3, 0, none⟩ = some (.int .i64 q0) ∧ W.cell? ⟨k3, 1, none⟩ = some (.int .i64 q1) ∧ W.cell? ⟨k3, 2, none⟩ = some (.int .i64 q2) ∧ W.cell? ⟨k3, 3, none⟩ = some (.int .i64 q3) ∧ W.cell? ⟨k3, 4, none⟩ = some (.int .i64 q4) ∧ W.cell? ⟨k3, 5, none⟩ = some (.int .i64 q5)) := fun W h => ⟨(h.box 3).c 0, (h.box 3).c 1, (h.box 3).c 2, (h.box 3).c 3, (h.box 3).c 4, (h.box 3).c 5, (h.box 3).c 6, (h.box 3).c 7, (h.box 3).c 8, (h.box 2).c 0, (h.box 2).c 1, (h.box 2).c 2, (h.box 0).c 0, (h.box 0).c 1, (h.box 0).c 2, (h.box 0).c 3, (h.box 0).c 4, (h.box 0).c 5⟩
    have t0 : (kk == kk) = true := by simp
    have t1 : (zz == zz) = true := by simp
    have t2 : decide (q2 > 0) = true := by rw [decide_eq_true_eq]; exact HL.out
    have t2' : decide (0 < q2) = true := by rw [decide_eq_true_eq]; exact HL.out
    have t3 : (nn == nn) = true := by simp
    cases kk
    · go_wp2_with fail
      refine wp_region_held_drew (S := fun w' => w'.cell? ⟨k1, 0, none⟩ = some (.int .i64 a0) ∧ w'.cell? ⟨k1, 1, none⟩ = some (.int .i64 a1) ∧ w'.cell? ⟨k1, 2, none⟩ = some (.int .i64 a2) ∧ w'.cell? ⟨k1, 3, none⟩ = some (.int .i64 a3) ∧ w'.cell? ⟨k1, 4, none⟩ = some (.int .i64 a4) ∧ w'.cell? ⟨k1, 5, none⟩ = some (.int .i64 a5) ∧ w'.cell? ⟨k1, 6, none⟩ = some (.int .i64 a6) ∧ w'.cell? ⟨k1, 7, none⟩ = some (.int .i64 a7) ∧ w'.cell? ⟨k1, 8, none⟩ = some (.int .i64 a8) ∧ w'.cell? ⟨k1 + 1, 0, none⟩ = some (.int .i64 p) ∧ w'.cell? ⟨k1 + 1, 1, none⟩ = some (.int .i64 q) ∧ w'.cell? ⟨k1 + 1, 2, none⟩ = some (.int .i64 0) ∧ w'.cell? ⟨k3, 0, none⟩ = some (.int .i64 q0) ∧ w'.cell? ⟨k3, 1, none⟩ = some (.int .i64 q1) ∧ w'.cell? ⟨k3, 2, none⟩ = some (.int .i64 q2) ∧ w'.cell? ⟨k3, 3, none⟩ = some (.int .i64 q3) ∧ w'.cell? ⟨k3, 4, none⟩ = some (.int .i64 q4) ∧ w'.cell? ⟨k3, 5, none⟩ = some (.int .i64 q5)) (by kernel_rfl) (by (try dsimp only); exact HC _ HT.drew) (fun hHeld => ?_)
      refine wpAnyH_take (i := 0) (oi := { dst := some 41, op := Go.Op.move (Go.Operand.tmp 7), type := 4, pos := "laws.go:237", after := #[], guard := none }) (v := ?_) rfl (by kernel_rfl) (by kernel_rfl) (by kernel_rfl) (fun _ _ _ h => h) (Or.inl ⟨by rfl, ?_⟩) (by assumption) ?_
      rotate_left 1
      · (intro w hSw; (try dsimp only at hSw); go_simp <;> with_reducible rfl)
      (try simp only [Act.put, List.setIfInBounds_toArray, List.set_cons_zero, List.set_cons_succ])
      refine wpAnyH_take (i := 1) (oi := { dst := some 42, op := Go.Op.load 27 (Go.Operand.tmp 3), type := 27, pos := "laws.go:237", after := #[], guard := none }) (v := ?_) rfl (by kernel_rfl) (by kernel_rfl) (by kernel_rfl) (fun _ _ _ h => h) (Or.inl ⟨by rfl, ?_⟩) (by assumption) ?_
      rotate_left 1
      · (intro w hSw; (try dsimp only at hSw); go_simp <;> with_reducible rfl)
      (try simp only [Act.put, List.setIfInBounds_toArray, List.set_cons_zero, List.set_cons_succ])
      refine wpAnyH_take (i := 2) (oi := { dst := some 43, op := Go.Op.fieldAddr 24 (Go.Operand.tmp 4) 0, type := 0, pos := "laws.go:237", after := #[], guard := none }) (v := ?_) rfl (by kernel_rfl) (by kernel_rfl) (by kernel_rfl) (fun _ _ _ h => h) (Or.inl ⟨by rfl, ?_⟩) (by assumption) ?_
      rotate_left 1
      · (intro w hSw; (try dsimp only at hSw); go_simp <;> with_reducible rfl)
      (try simp only [Act.put, List.setIfInBounds_toArray, List.set_cons_zero, List.set_cons_succ])
      refine wpAnyH_take (i := 3) (oi := { dst := some 44, op := Go.Op.load 3 (Go.Operand.tmp 43), type := 3, pos := "laws.go:237", after := #[{ on := 2, ground := Go.Ground.data }], guard := none }) (v := ?_) rfl (by kernel_rfl) (by kernel_rfl) (by kernel_rfl) (fun _ _ _ h => h) (Or.inl ⟨by rfl, ?_⟩) (by assumption) ?_
      rotate_left 1
      · (intro w hSw; (try dsimp only at hSw); go_simp <;> with_reducible rfl)
      (try simp only [Act.put, List.setIfInBounds_toArray, List.set_cons_zero, List.set_cons_succ])
      refine wpAnyH_take (i := 4) (oi := { dst := some 45, op := Go.Op.fieldAddr 24 (Go.Operand.tmp 4) 1, type := 0, pos := "laws.go:237", after := #[], guard := none }) (v := ?_) rfl (by kernel_rfl) (by kernel_rfl) (by kernel_rfl) (fun _ _ _ h => h) (Or.inl ⟨by rfl, ?_⟩) (by assumption) ?_
      rotate_left 1
      · (intro w hSw; (try dsimp only at hSw); go_simp <;> with_reducible rfl)
      (try simp only [Act.put, List.setIfInBounds_toArray, List.set_cons_zero, List.set_cons_succ])
      refine wpAnyH_take (i := 5) (oi := { dst := some 46, op := Go.Op.load 3 (Go.Operand.tmp 45), type := 3, pos := "laws.go:237", after := #[{ on := 4, ground := Go.Ground.data }], guard := none }) (v := ?_) rfl (by kernel_rfl) (by kernel_rfl) (by kernel_rfl) (fun _ _ _ h => h) (Or.inl ⟨by rfl, ?_⟩) (by assumption) ?_
      rotate_left 1
      · (intro w hSw; (try dsimp only at hSw); go_simp <;> with_reducible rfl)
      (try simp only [Act.put, List.setIfInBounds_toArray, List.set_cons_zero, List.set_cons_succ])
      refine wpAnyH_ready (rs := [6]) (by kernel_rfl) (by simp) ?_
      refine AllReadyH.cons (o := { dst := some 47, op := Go.Op.call { callee := Go.Callee.value (Go.Operand.func 12), args := #[Go.Operand.tmp 42, Go.Operand.tmp 44, Go.Operand.tmp 46], argTypes := #[27, 3, 3] }, type := 4, pos := "laws.go:237", after := #[{ on := 1, ground := Go.Ground.data }, { on := 3, ground := Go.Ground.data }, { on := 5, ground := Go.Ground.data }], guard := none }) rfl (fun K hK => ?_) AllReadyH.nil
      go_simp
      (first | (go_at_call 12; (with_reducible refine (HCv.out _).mono ?_); rintro e w1 ⟨rfl, hb1⟩; (first | (have HT := HT.later hb1) | (have HT := HT.drew.later hb1))) | (go_at_call 13; (with_reducible refine (flipTriangle_any _ _ _ _ _ _ _ _ _ _).mono ?_); rintro e w1 ⟨rfl, hb1⟩; (first | (have HT := HT.later hb1) | (have HT := HT.drew.later hb1))) | (go_at_call 16; (with_reducible refine (HA1.out _).mono ?_); rintro e w1 ⟨rfl, hb1⟩; (first | (have HT := HT.later hb1) | (have HT := HT.drew.later hb1))) | (go_at_call 16; (with_reducible refine (HA2.out _).mono ?_); rintro e w1 ⟨rfl, hb1⟩; (first | (have HT := HT.later hb1) | (have HT := HT.drew.later hb1))))
      (try go_wp2_with fail)
      refine hK.out _ _ (by (try dsimp only); first | with_reducible exact HC _ HT | with_reducible exact HC _ HT.drew) (fun hHeld => ?_)
      clear hK K
      (try simp only [Act.put, List.setIfInBounds_toArray, List.set_cons_zero, List.set_cons_succ])
      refine wpAnyH_take (i := 7) (oi := { dst := some 48, op := Go.Op.binOp Go.BinOp.eql 4 (Go.Operand.tmp 41) (Go.Operand.tmp 47) 4, type := 4, pos := "laws.go:237", after := #[{ on := 0, ground := Go.Ground.data }, { on := 6, ground := Go.Ground.data }], guard := none }) (v := ?_) rfl (by kernel_rfl) (by kernel_rfl) (by kernel_rfl) (fun _ _ _ h => h) (Or.inl ⟨by rfl, ?_⟩) (by assumption) ?_
      rotate_left 1
      · (intro w hSw; (try dsimp only at hSw); go_simp <;> with_reducible rfl)
      (try simp only [Act.put, List.setIfInBounds_toArray, List.set_cons_zero, List.set_cons_succ])
      refine wpAnyH_take (i := 8) (oi := { dst := some 49, op := Go.Op.move (Go.Operand.tmp 48), type := 4, pos := "laws.go:237", after := #[{ on := 7, ground := Go.Ground.data }, { on := 6, ground := Go.Ground.chain }], guard := none }) (v := ?_) rfl (by kernel_rfl) (by kernel_rfl) (by kernel_rfl) (fun _ _ _ h => h) (Or.inl ⟨by rfl, ?_⟩) (by assumption) ?_
      rotate_left 1
      · (intro w hSw; (try dsimp only at hSw); go_simp <;> with_reducible rfl)
      (try simp only [Act.put, List.setIfInBounds_toArray, List.set_cons_zero, List.set_cons_succ])
      refine wpAnyH_take (i := 9) (oi := { dst := some 50, op := Go.Op.move (Go.Operand.tmp 7), type := 4, pos := "laws.go:237", after := #[{ on := 8, ground := Go.Ground.guard }], guard := some (8, true) }) (v := ?_) rfl (by kernel_rfl) (by kernel_rfl) (by kernel_rfl) (fun _ _ _ h => h) (Or.inl ⟨by rfl, ?_⟩) (by assumption) ?_
      rotate_left 1
      · (intro w hSw; (try dsimp only at hSw); go_simp <;> with_reducible rfl)
      (try simp only [Act.put, List.setIfInBounds_toArray, List.set_cons_zero, List.set_cons_succ])
      refine wpAnyH_take (i := 10) (oi := { dst := some 51, op := Go.Op.move (Go.Operand.tmp 9), type := 4, pos := "laws.go:237", after := #[{ on := 8, ground := Go.Ground.guard }], guard := some (8, true) }) (v := ?_) rfl (by kernel_rfl) (by kernel_rfl) (by kernel_rfl) (fun _ _ _ h => h) (Or.inl ⟨by rfl, ?_⟩) (by assumption) ?_
      rotate_left 1
      · (intro w hSw; (try dsimp only at hSw); go_simp <;> with_reducible rfl)
      (try simp only [Act.put, List.setIfInBounds_toArray, List.set_cons_zero, List.set_cons_succ])
      refine wpAnyH_take (i := 11) (oi := { dst := some 52, op := Go.Op.binOp Go.BinOp.eql 4 (Go.Operand.tmp 50) (Go.Operand.tmp 51) 4, type := 4, pos := "laws.go:237", after := #[{ on := 9, ground := Go.Ground.data }, { on := 10, ground := Go.Ground.data }, { on := 8, ground := Go.Ground.guard }], guard := some (8, true) }) (v := ?_) rfl (by kernel_rfl) (by kernel_rfl) (by kernel_rfl) (fun _ _ _ h => h) (Or.inl ⟨by rfl, ?_⟩) (by assumption) ?_
      rotate_left 1
      · (intro w hSw; (try dsimp only at hSw); go_simp <;> with_reducible rfl)
      (try simp only [Act.put, List.setIfInBounds_toArray, List.set_cons_zero, List.set_cons_succ])
      refine wpAnyH_take (i := 12) (oi := { dst := some 53, op := Go.Op.pick (Go.Operand.tmp 49) (Go.Operand.tmp 52) (Go.Operand.const (Go.Value.bool false)), type := 4, pos := "laws.go:237", after := #[{ on := 8, ground := Go.Ground.data }, { on := 11, ground := Go.Ground.data }], guard := none }) (v := ?_) rfl (by kernel_rfl) (by kernel_rfl) (by kernel_rfl) (fun _ _ _ h => h) (Or.inl ⟨by rfl, ?_⟩) (by assumption) ?_
      rotate_left 1
      · (intro w hSw; (try dsimp only at hSw); go_simp <;> with_reducible rfl)
      (try simp only [Act.put, List.setIfInBounds_toArray, List.set_cons_zero, List.set_cons_succ])
      refine wpAnyH_take (i := 13) (oi := { dst := some 54, op := Go.Op.move (Go.Operand.tmp 53), type := 4, pos := "laws.go:237", after := #[{ on := 12, ground := Go.Ground.data }, { on := 8, ground := Go.Ground.chain }], guard := none }) (v := ?_) rfl (by kernel_rfl) (by kernel_rfl) (by kernel_rfl) (fun _ _ _ h => h) (Or.inl ⟨by rfl, ?_⟩) (by assumption) ?_
      rotate_left 1
      · (intro w hSw; (try dsimp only at hSw); go_simp <;> with_reducible rfl)
      (try simp only [Act.put, List.setIfInBounds_toArray, List.set_cons_zero, List.set_cons_succ])
      refine wpAnyH_take (i := 14) (oi := { dst := some 55, op := Go.Op.move (Go.Operand.tmp 8), type := 3, pos := "laws.go:237", after := #[{ on := 13, ground := Go.Ground.guard }], guard := some (13, true) }) (v := ?_) rfl (by kernel_rfl) (by kernel_rfl) (by kernel_rfl) (fun _ _ _ h => h) (Or.inl ⟨by rfl, ?_⟩) (by assumption) ?_
      rotate_left 1
      · (intro w hSw; (try dsimp only at hSw); go_simp <;> with_reducible rfl)
      (try simp only [Act.put, List.setIfInBounds_toArray, List.set_cons_zero, List.set_cons_succ])
      refine wpAnyH_take (i := 15) (oi := { dst := some 56, op := Go.Op.move (Go.Operand.tmp 6), type := 3, pos := "laws.go:237", after := #[{ on := 13, ground := Go.Ground.guard }], guard := some (13, true) }) (v := ?_) rfl (by kernel_rfl) (by kernel_rfl) (by kernel_rfl) (fun _ _ _ h => h) (Or.inl ⟨by rfl, ?_⟩) (by assumption) ?_
      rotate_left 1
      · (intro w hSw; (try dsimp only at hSw); go_simp <;> with_reducible rfl)
      (try simp only [Act.put, List.setIfInBounds_toArray, List.set_cons_zero, List.set_cons_succ])
      refine wpAnyH_take (i := 16) (oi := { dst := some 57, op := Go.Op.binOp Go.BinOp.eql 3 (Go.Operand.tmp 55) (Go.Operand.tmp 56) 3, type := 4, pos := "laws.go:237", after := #[{ on := 14, ground := Go.Ground.data }, { on := 15, ground := Go.Ground.data }, { on := 13, ground := Go.Ground.guard }], guard := some (13, true) }) (v := ?_) rfl (by kernel_rfl) (by kernel_rfl) (by kernel_rfl) (fun _ _ _ h => h) (Or.inl ⟨by rfl, ?_⟩) (by assumption) ?_
      rotate_left 1
      · (intro w hSw; (try dsimp only at hSw); go_simp <;> with_reducible rfl)
      (try simp only [Act.put, List.setIfInBounds_toArray, List.set_cons_zero, List.set_cons_succ])
      refine wpAnyH_take (i := 17) (oi := { dst := some 58, op := Go.Op.pick (Go.Operand.tmp 54) (Go.Operand.tmp 57) (Go.Operand.const (Go.Value.bool false)), type := 4, pos := "laws.go:237", after := #[{ on := 13, ground := Go.Ground.data }, { on := 16, ground := Go.Ground.data }], guard := none }) (v := ?_) rfl (by kernel_rfl) (by kernel_rfl) (by kernel_rfl) (fun _ _ _ h => h) (Or.inl ⟨by rfl, ?_⟩) (by assumption) ?_
      rotate_left 1
      · (intro w hSw; (try dsimp only at hSw); go_simp <;> with_reducible rfl)
      (try simp only [Act.put, List.setIfInBounds_toArray, List.set_cons_zero, List.set_cons_succ])
      refine wpAnyH_take (i := 18) (oi := { dst := some 59, op := Go.Op.move (Go.Operand.tmp 58), type := 4, pos := "laws.go:237", after := #[{ on := 17, ground := Go.Ground.data }, { on := 13, ground := Go.Ground.chain }], guard := none }) (v := ?_) rfl (by kernel_rfl) (by kernel_rfl) (by kernel_rfl) (fun _ _ _ h => h) (Or.inl ⟨by rfl, ?_⟩) (by assumption) ?_
      rotate_left 1
      · (intro w hSw; (try dsimp only at hSw); go_simp <;> with_reducible rfl)
      (try simp only [Act.put, List.setIfInBounds_toArray, List.set_cons_zero, List.set_cons_succ])
      refine wpAnyH_take (i := 19) (oi := { dst := some 60, op := Go.Op.move (Go.Operand.tmp 7), type := 4, pos := "laws.go:237", after := #[{ on := 18, ground := Go.Ground.guard }], guard := some (18, true) }) (v := ?_) rfl (by kernel_rfl) (by kernel_rfl) (by kernel_rfl) (fun _ _ _ h => h) (Or.inl ⟨by rfl, ?_⟩) (by assumption) ?_
      rotate_left 1
      · (intro w hSw; (try dsimp only at hSw); go_simp <;> with_reducible rfl)
      (try simp only [Act.put, List.setIfInBounds_toArray, List.set_cons_zero, List.set_cons_succ])
      refine wpAnyH_take (i := 20) (oi := { dst := some 61, op := Go.Op.unOp Go.UnOp.not 4 (Go.Operand.tmp 60), type := 4, pos := "laws.go:237", after := #[{ on := 19, ground := Go.Ground.data }, { on := 18, ground := Go.Ground.guard }], guard := some (18, true) }) (v := ?_) rfl (by kernel_rfl) (by kernel_rfl) (by kernel_rfl) (fun _ _ _ h => h) (Or.inl ⟨by rfl, ?_⟩) (by assumption) ?_
      rotate_left 1
      · (intro w hSw; (try dsimp only at hSw); go_simp <;> with_reducible rfl)
      (try simp only [Act.put, List.setIfInBounds_toArray, List.set_cons_zero, List.set_cons_succ])
      refine wpAnyH_take (i := 21) (oi := { dst := some 62, op := Go.Op.move (Go.Operand.tmp 61), type := 4, pos := "laws.go:237", after := #[{ on := 20, ground := Go.Ground.data }, { on := 18, ground := Go.Ground.chain }, { on := 18, ground := Go.Ground.guard }], guard := some (18, true) }) (v := ?_) rfl (by kernel_rfl) (by kernel_rfl) (by kernel_rfl) (fun _ _ _ h => h) (Or.inl ⟨by rfl, ?_⟩) (by assumption) ?_
      rotate_left 1
      · (intro w hSw; (try dsimp only at hSw); go_simp <;> with_reducible rfl)
      (try simp only [Act.put, List.setIfInBounds_toArray, List.set_cons_zero, List.set_cons_succ])
      refine wpAnyH_take (i := 22) (oi := { dst := some 63, op := Go.Op.move (Go.Operand.tmp 6), type := 3, pos := "laws.go:237", after := #[{ on := 21, ground := Go.Ground.guard }], guard := some (21, false) }) (v := undef) rfl (by kernel_rfl) (by kernel_rfl) (by kernel_rfl) (fun _ _ _ h => h) (Or.inr ⟨by rfl, rfl⟩) (by assumption) ?_
      (try simp only [Act.put, List.setIfInBounds_toArray, List.set_cons_zero, List.set_cons_succ])
      refine wpAnyH_take (i := 23) (oi := { dst := some 64, op := Go.Op.fieldAddr 36 (Go.Operand.tmp 10) 0, type := 0, pos := "laws.go:237", after := #[{ on := 21, ground := Go.Ground.guard }], guard := some (21, false) }) (v := undef) rfl (by kernel_rfl) (by kernel_rfl) (by kernel_rfl) (fun _ _ _ h => h) (Or.inr ⟨by rfl, rfl⟩) (by assumption) ?_
      (try simp only [Act.put, List.setIfInBounds_toArray, List.set_cons_zero, List.set_cons_succ])
      refine wpAnyH_take (i := 24) (oi := { dst := some 65, op := Go.Op.fieldAddr 24 (Go.Operand.tmp 64) 2, type := 0, pos := "laws.go:237", after := #[{ on := 23, ground := Go.Ground.data }, { on := 21, ground := Go.Ground.guard }], guard := some (21, false) }) (v := undef) rfl (by kernel_rfl) (by kernel_rfl) (by kernel_rfl) (fun _ _ _ h => h) (Or.inr ⟨by rfl, rfl⟩) (by assumption) ?_
      (try simp only [Act.put, List.setIfInBounds_toArray, List.set_cons_zero, List.set_cons_succ])
      refine wpAnyH_take (i := 25) (oi := { dst := some 66, op := Go.Op.load 3 (Go.Operand.tmp 65), type := 3, pos := "laws.go:237", after := #[{ on := 24, ground := Go.Ground.data }, { on := 21, ground := Go.Ground.guard }], guard := some (21, false) }) (v := undef) rfl (by kernel_rfl) (by kernel_rfl) (by kernel_rfl) (fun _ _ _ h => h) (Or.inr ⟨by rfl, rfl⟩) (by assumption) ?_
      (try simp only [Act.put, List.setIfInBounds_toArray, List.set_cons_zero, List.set_cons_succ])
      refine wpAnyH_take (i := 26) (oi := { dst := some 67, op := Go.Op.binOp Go.BinOp.geq 3 (Go.Operand.tmp 63) (Go.Operand.tmp 66) 3, type := 4, pos := "laws.go:237", after := #[{ on := 22, ground := Go.Ground.data }, { on := 25, ground := Go.Ground.data }, { on := 21, ground := Go.Ground.guard }], guard := some (21, false) }) (v := undef) rfl (by kernel_rfl) (by kernel_rfl) (by kernel_rfl) (fun _ _ _ h => h) (Or.inr ⟨by rfl, rfl⟩) (by assumption) ?_
      (try simp only [Act.put, List.setIfInBounds_toArray, List.set_cons_zero, List.set_cons_succ])
      refine wpAnyH_take (i := 27) (oi := { dst := some 68, op := Go.Op.move (Go.Operand.tmp 67), type := 4, pos := "laws.go:237", after := #[{ on := 26, ground := Go.Ground.data }, { on := 21, ground := Go.Ground.chain }, { on := 21, ground := Go.Ground.guard }], guard := some (21, false) }) (v := undef) rfl (by kernel_rfl) (by kernel_rfl) (by kernel_rfl) (fun _ _ _ h => h) (Or.inr ⟨by rfl, rfl⟩) (by assumption) ?_
      (try simp only [Act.put, List.setIfInBounds_toArray, List.set_cons_zero, List.set_cons_succ])
      refine wpAnyH_take (i := 28) (oi := { dst := some 69, op := Go.Op.move (Go.Operand.tmp 6), type := 3, pos := "laws.go:237", after := #[{ on := 27, ground := Go.Ground.guard }], guard := some (27, true) }) (v := undef) rfl (by kernel_rfl) (by kernel_rfl) (by kernel_rfl) (fun _ _ _ h => h) (Or.inr ⟨by rfl, rfl⟩) (by assumption) ?_
      (try simp only [Act.put, List.setIfInBounds_toArray, List.set_cons_zero, List.set_cons_succ])
      refine wpAnyH_take (i := 29) (oi := { dst := some 70, op := Go.Op.fieldAddr 36 (Go.Operand.tmp 10) 1, type := 0, pos := "laws.go:237", after := #[{ on := 27, ground := Go.Ground.guard }], guard := some (27, true) }) (v := undef) rfl (by kernel_rfl) (by kernel_rfl) (by kernel_rfl) (fun _ _ _ h => h) (Or.inr ⟨by rfl, rfl⟩) (by assumption) ?_
      (try simp only [Act.put, List.setIfInBounds_toArray, List.set_cons_zero, List.set_cons_succ])
      refine wpAnyH_take (i := 30) (oi := { dst := some 71, op := Go.Op.fieldAddr 24 (Go.Operand.tmp 70) 2, type := 0, pos := "laws.go:237", after := #[{ on := 29, ground := Go.Ground.data }, { on := 27, ground := Go.Ground.guard }], guard := some (27, true) }) (v := undef) rfl (by kernel_rfl) (by kernel_rfl) (by kernel_rfl) (fun _ _ _ h => h) (Or.inr ⟨by rfl, rfl⟩) (by assumption) ?_
      (try simp only [Act.put, List.setIfInBounds_toArray, List.set_cons_zero, List.set_cons_succ])
      refine wpAnyH_take (i := 31) (oi := { dst := some 72, op := Go.Op.load 3 (Go.Operand.tmp 71), type := 3, pos := "laws.go:237", after := #[{ on := 30, ground := Go.Ground.data }, { on := 27, ground := Go.Ground.guard }], guard := some (27, true) }) (v := undef) rfl (by kernel_rfl) (by kernel_rfl) (by kernel_rfl) (fun _ _ _ h => h) (Or.inr ⟨by rfl, rfl⟩) (by assumption) ?_
      (try simp only [Act.put, List.setIfInBounds_toArray, List.set_cons_zero, List.set_cons_succ])
      refine wpAnyH_take (i := 32) (oi := { dst := some 73, op := Go.Op.binOp Go.BinOp.leq 3 (Go.Operand.tmp 69) (Go.Operand.tmp 72) 3, type := 4, pos := "laws.go:237", after := #[{ on := 28, ground := Go.Ground.data }, { on := 31, ground := Go.Ground.data }, { on := 27, ground := Go.Ground.guard }], guard := some (27, true) }) (v := undef) rfl (by kernel_rfl) (by kernel_rfl) (by kernel_rfl) (fun _ _ _ h => h) (Or.inr ⟨by rfl, rfl⟩) (by assumption) ?_
      (try simp only [Act.put, List.setIfInBounds_toArray, List.set_cons_zero, List.set_cons_succ])
      refine wpAnyH_take (i := 33) (oi := { dst := some 74, op := Go.Op.pick (Go.Operand.tmp 68) (Go.Operand.tmp 73) (Go.Operand.const (Go.Value.bool false)), type := 4, pos := "laws.go:237", after := #[{ on := 27, ground := Go.Ground.data }, { on := 32, ground := Go.Ground.data }, { on := 21, ground := Go.Ground.guard }], guard := some (21, false) }) (v := undef) rfl (by kernel_rfl) (by kernel_rfl) (by kernel_rfl) (fun _ _ _ h => h) (Or.inr ⟨by rfl, rfl⟩) (by assumption) ?_
      (try simp only [Act.put, List.setIfInBounds_toArray, List.set_cons_zero, List.set_cons_succ])
      refine wpAnyH_take (i := 34) (oi := { dst := some 75, op := Go.Op.pick (Go.Operand.tmp 62) (Go.Operand.const (Go.Value.bool true)) (Go.Operand.tmp 74), type := 4, pos := "laws.go:237", after := #[{ on := 21, ground := Go.Ground.data }, { on := 33, ground := Go.Ground.data }, { on := 18, ground := Go.Ground.guard }], guard := some (18, true) }) (v := ?_) rfl (by kernel_rfl) (by kernel_rfl) (by kernel_rfl) (fun _ _ _ h => h) (Or.inl ⟨by rfl, ?_⟩) (by assumption) ?_
      rotate_left 1
      · (intro w hSw; (try dsimp only at hSw); go_simp <;> with_reducible rfl)
      (try simp only [Act.put, List.setIfInBounds_toArray, List.set_cons_zero, List.set_cons_succ])
      refine wpAnyH_take (i := 35) (oi := { dst := some 76, op := Go.Op.pick (Go.Operand.tmp 59) (Go.Operand.tmp 75) (Go.Operand.const (Go.Value.bool false)), type := 4, pos := "laws.go:237", after := #[{ on := 18, ground := Go.Ground.data }, { on := 34, ground := Go.Ground.data }], guard := none }) (v := ?_) rfl (by kernel_rfl) (by kernel_rfl) (by kernel_rfl) (fun _ _ _ h => h) (Or.inl ⟨by rfl, ?_⟩) (by assumption) ?_
      rotate_left 1
      · (intro w hSw; (try dsimp only at hSw); go_simp <;> with_reducible rfl)
      (try simp only [Act.put, List.setIfInBounds_toArray, List.set_cons_zero, List.set_cons_succ])
      refine wpAnyH_take (i := 36) (oi := { dst := some 77, op := Go.Op.move (Go.Operand.tmp 76), type := 4, pos := "laws.go:237", after := #[{ on := 35, ground := Go.Ground.data }, { on := 27, ground := Go.Ground.chain }], guard := none }) (v := ?_) rfl (by kernel_rfl) (by kernel_rfl) (by kernel_rfl) (fun _ _ _ h => h) (Or.inl ⟨by rfl, ?_⟩) (by assumption) ?_
      rotate_left 1
      · (intro w hSw; (try dsimp only at hSw); go_simp <;> with_reducible rfl)
      (try simp only [Act.put, List.setIfInBounds_toArray, List.set_cons_zero, List.set_cons_succ])
      refine wpAnyH_take (i := 37) (oi := { dst := some 78, op := Go.Op.fieldAddr 36 (Go.Operand.tmp 10) 0, type := 0, pos := "laws.go:237", after := #[{ on := 36, ground := Go.Ground.guard }], guard := some (36, true) }) (v := ?_) rfl (by kernel_rfl) (by kernel_rfl) (by kernel_rfl) (fun _ _ _ h => h) (Or.inl ⟨by rfl, ?_⟩) (by assumption) ?_
      rotate_left 1
      · (intro w hSw; (try dsimp only at hSw); go_simp <;> with_reducible rfl)
      (try simp only [Act.put, List.setIfInBounds_toArray, List.set_cons_zero, List.set_cons_succ])
      refine wpAnyH_take (i := 38) (oi := { dst := some 79, op := Go.Op.fieldAddr 24 (Go.Operand.tmp 78) 2, type := 0, pos := "laws.go:237", after := #[{ on := 37, ground := Go.Ground.data }, { on := 36, ground := Go.Ground.guard }], guard := some (36, true) }) (v := ?_) rfl (by kernel_rfl) (by kernel_rfl) (by kernel_rfl) (fun _ _ _ h => h) (Or.inl ⟨by rfl, ?_⟩) (by assumption) ?_
      rotate_left 1
      · (intro w hSw; (try dsimp only at hSw); go_simp <;> with_reducible rfl)
      (try simp only [Act.put, List.setIfInBounds_toArray, List.set_cons_zero, List.set_cons_succ])
      refine wpAnyH_take (i := 39) (oi := { dst := some 80, op := Go.Op.load 3 (Go.Operand.tmp 79), type := 3, pos := "laws.go:237", after := #[{ on := 38, ground := Go.Ground.data }, { on := 36, ground := Go.Ground.guard }], guard := some (36, true) }) (v := ?_) rfl (by kernel_rfl) (by kernel_rfl) (by kernel_rfl) (fun _ _ _ h => h) (Or.inl ⟨by rfl, ?_⟩) (by assumption) ?_
      rotate_left 1
      · (intro w hSw; (try dsimp only at hSw); go_simp <;> with_reducible rfl)
      (try simp only [Act.put, List.setIfInBounds_toArray, List.set_cons_zero, List.set_cons_succ])
      refine wpAnyH_take (i := 40) (oi := { dst := some 81, op := Go.Op.binOp Go.BinOp.gtr 3 (Go.Operand.tmp 80) (Go.Operand.const (Go.Value.int Go.IntKind.i64 0)) 3, type := 4, pos := "laws.go:237", after := #[{ on := 39, ground := Go.Ground.data }, { on := 36, ground := Go.Ground.guard }], guard := some (36, true) }) (v := ?_) rfl (by kernel_rfl) (by kernel_rfl) (by kernel_rfl) (fun _ _ _ h => h) (Or.inl ⟨by rfl, ?_⟩) (by assumption) ?_
      rotate_left 1
      · (intro w hSw; (try dsimp only at hSw); go_simp <;> with_reducible rfl)
      (try simp only [Act.put, List.setIfInBounds_toArray, List.set_cons_zero, List.set_cons_succ])
      refine wpAnyH_take (i := 41) (oi := { dst := some 82, op := Go.Op.pick (Go.Operand.tmp 77) (Go.Operand.tmp 81) (Go.Operand.const (Go.Value.bool false)), type := 4, pos := "laws.go:237", after := #[{ on := 36, ground := Go.Ground.data }, { on := 40, ground := Go.Ground.data }], guard := none }) (v := ?_) rfl (by kernel_rfl) (by kernel_rfl) (by kernel_rfl) (fun _ _ _ h => h) (Or.inl ⟨by rfl, ?_⟩) (by assumption) ?_
      rotate_left 1
      · (intro w hSw; (try dsimp only at hSw); go_simp <;> with_reducible rfl)
      (try simp only [Act.put, List.setIfInBounds_toArray, List.set_cons_zero, List.set_cons_succ])
      refine wpAnyH_take (i := 42) (oi := { dst := some 83, op := Go.Op.move (Go.Operand.tmp 82), type := 4, pos := "laws.go:237", after := #[{ on := 41, ground := Go.Ground.data }, { on := 36, ground := Go.Ground.chain }], guard := none }) (v := ?_) rfl (by kernel_rfl) (by kernel_rfl) (by kernel_rfl) (fun _ _ _ h => h) (Or.inl ⟨by rfl, ?_⟩) (by assumption) ?_
      rotate_left 1
      · (intro w hSw; (try dsimp only at hSw); go_simp <;> with_reducible rfl)
      (try simp only [Act.put, List.setIfInBounds_toArray, List.set_cons_zero, List.set_cons_succ])
      refine wpAnyH_take (i := 43) (oi := { dst := some 84, op := Go.Op.load 27 (Go.Operand.tmp 3), type := 27, pos := "laws.go:237", after := #[{ on := 42, ground := Go.Ground.guard }], guard := some (42, true) }) (v := ?_) rfl (by kernel_rfl) (by kernel_rfl) (by kernel_rfl) (fun _ _ _ h => h) (Or.inl ⟨by rfl, ?_⟩) (by assumption) ?_
      rotate_left 1
      · (intro w hSw; (try dsimp only at hSw); go_simp <;> with_reducible rfl)
      (try simp only [Act.put, List.setIfInBounds_toArray, List.set_cons_zero, List.set_cons_succ])
      refine wpAnyH_take (i := 45) (oi := { dst := some 86, op := Go.Op.load 27 (Go.Operand.tmp 3), type := 27, pos := "laws.go:237", after := #[{ on := 42, ground := Go.Ground.guard }], guard := some (42, true) }) (v := ?_) rfl (by kernel_rfl) (by kernel_rfl) (by kernel_rfl) (fun _ _ _ h => h) (Or.inl ⟨by rfl, ?_⟩) (by assumption) ?_
      rotate_left 1
      · (intro w hSw; (try dsimp only at hSw); go_simp <;> with_reducible rfl)
      (try simp only [Act.put, List.setIfInBounds_toArray, List.set_cons_zero, List.set_cons_succ])
      refine wpAnyH_ready (rs := [44]) (by kernel_rfl) (by simp) ?_
      refine AllReadyH.cons (o := { dst := some 85, op := Go.Op.call { callee := Go.Callee.value (Go.Operand.func 16), args := #[Go.Operand.tmp 84], argTypes := #[27] }, type := 3, pos := "laws.go:237", after := #[{ on := 43, ground := Go.Ground.data }, { on := 42, ground := Go.Ground.chain }, { on := 42, ground := Go.Ground.guard }], guard := some (42, true) }) rfl (fun K hK => ?_) AllReadyH.nil
      go_simp
      (first | (go_at_call 12; (with_reducible refine (HCv.out _).mono ?_); rintro e w1 ⟨rfl, hb1⟩; (first | (have HT := HT.later hb1) | (have HT := HT.drew.later hb1))) | (go_at_call 13; (with_reducible refine (flipTriangle_any _ _ _ _ _ _ _ _ _ _).mono ?_); rintro e w1 ⟨rfl, hb1⟩; (first | (have HT := HT.later hb1) | (have HT := HT.drew.later hb1))) | (go_at_call 16; (with_reducible refine (HA1.out _).mono ?_); rintro e w1 ⟨rfl, hb1⟩; (first | (have HT := HT.later hb1) | (have HT := HT.drew.later hb1))) | (go_at_call 16; (with_reducible refine (HA2.out _).mono ?_); rintro e w1 ⟨rfl, hb1⟩; (first | (have HT := HT.later hb1) | (have HT := HT.drew.later hb1))))
      (try go_wp2_with fail)
      refine hK.out _ _ (by (try dsimp only); first | with_reducible exact HC _ HT | with_reducible exact HC _ HT.drew) (fun hHeld => ?_)
      clear hK K
      (try simp only [Act.put, List.setIfInBounds_toArray, List.set_cons_zero, List.set_cons_succ])
      refine wpAnyH_ready (rs := [46]) (by kernel_rfl) (by simp) ?_
      refine AllReadyH.cons (o := { dst := some 87, op := Go.Op.call { callee := Go.Callee.value (Go.Operand.func 13), args := #[Go.Operand.tmp 86], argTypes := #[27] }, type := 27, pos := "laws.go:237", after := #[{ on := 45, ground := Go.Ground.data }, { on := 44, ground := Go.Ground.chain }, { on := 42, ground := Go.Ground.guard }], guard := some (42, true) }) rfl (fun K hK => ?_) AllReadyH.nil
      go_simp
      (first | (go_at_call 12; (with_reducible refine (HCv.out _).mono ?_); rintro e w1 ⟨rfl, hb1⟩; (first | (have HT := HT.later hb1) | (have HT := HT.drew.later hb1))) | (go_at_call 13; (with_reducible refine (flipTriangle_any _ _ _ _ _ _ _ _ _ _).mono ?_); rintro e w1 ⟨rfl, hb1⟩; (first | (have HT := HT.later hb1) | (have HT := HT.drew.later hb1))) | (go_at_call 16; (with_reducible refine (HA1.out _).mono ?_); rintro e w1 ⟨rfl, hb1⟩; (first | (have HT := HT.later hb1) | (have HT := HT.drew.later hb1))) | (go_at_call 16; (with_reducible refine (HA2.out _).mono ?_); rintro e w1 ⟨rfl, hb1⟩; (first | (have HT := HT.later hb1) | (have HT := HT.drew.later hb1))))
      (try go_wp2_with fail)
      refine hK.out _ _ (by (try dsimp only); first | with_reducible exact HC _ HT | with_reducible exact HC _ HT.drew) (fun hHeld => ?_)
      clear hK K
      (try simp only [Act.put, List.setIfInBounds_toArray, List.set_cons_zero, List.set_cons_succ])
      refine wpAnyH_ready (rs := [47]) (by kernel_rfl) (by simp) ?_
      refine AllReadyH.cons (o := { dst := some 88, op := Go.Op.call { callee := Go.Callee.value (Go.Operand.func 16), args := #[Go.Operand.tmp 87], argTypes := #[27] }, type := 3, pos := "laws.go:237", after := #[{ on := 46, ground := Go.Ground.data }, { on := 46, ground := Go.Ground.chain }, { on := 42, ground := Go.Ground.guard }], guard := some (42, true) }) rfl (fun K hK => ?_) AllReadyH.nil
      go_simp
      (first | (go_at_call 12; (with_reducible refine (HCv.out _).mono ?_); rintro e w1 ⟨rfl, hb1⟩; (first | (have HT := HT.later hb1) | (have HT := HT.drew.later hb1))) | (go_at_call 13; (with_reducible refine (flipTriangle_any _ _ _ _ _ _ _ _ _ _).mono ?_); rintro e w1 ⟨rfl, hb1⟩; (first | (have HT := HT.later hb1) | (have HT := HT.drew.later hb1))) | (go_at_call 16; (with_reducible refine (HA1.out _).mono ?_); rintro e w1 ⟨rfl, hb1⟩; (first | (have HT := HT.later hb1) | (have HT := HT.drew.later hb1))) | (go_at_call 16; (with_reducible refine (HA2.out _).mono ?_); rintro e w1 ⟨rfl, hb1⟩; (first | (have HT := HT.later hb1) | (have HT := HT.drew.later hb1))))
      (try go_wp2_with fail)
      refine hK.out _ _ (by (try dsimp only); first | with_reducible exact HC _ HT | with_reducible exact HC _ HT.drew) (fun hHeld => ?_)
      clear hK K
      (try simp only [Act.put, List.setIfInBounds_toArray, List.set_cons_zero, List.set_cons_succ])
      refine wpAnyH_take (i := 48) (oi := { dst := some 89, op := Go.Op.unOp Go.UnOp.neg 3 (Go.Operand.tmp 88), type := 3, pos := "laws.go:237", after := #[{ on := 47, ground := Go.Ground.data }, { on := 42, ground := Go.Ground.guard }], guard := some (42, true) }) (v := ?_) rfl (by kernel_rfl) (by kernel_rfl) (by kernel_rfl) (fun _ _ _ h => h) (Or.inl ⟨by rfl, ?_⟩) (by assumption) ?_
      rotate_left 1
      · (intro w hSw; (try dsimp only at hSw); go_simp <;> with_reducible rfl)
      (try simp only [Act.put, List.setIfInBounds_toArray, List.set_cons_zero, List.set_cons_succ])
      refine wpAnyH_take (i := 49) (oi := { dst := some 90, op := Go.Op.binOp Go.BinOp.eql 3 (Go.Operand.tmp 85) (Go.Operand.tmp 89) 3, type := 4, pos := "laws.go:237", after := #[{ on := 44, ground := Go.Ground.data }, { on := 48, ground := Go.Ground.data }, { on := 42, ground := Go.Ground.guard }], guard := some (42, true) }) (v := ?_) rfl (by kernel_rfl) (by kernel_rfl) (by kernel_rfl) (fun _ _ _ h => h) (Or.inl ⟨by rfl, ?_⟩) (by assumption) ?_
      rotate_left 1
      · (intro w hSw; (try dsimp only at hSw); go_simp <;> with_reducible rfl)
      (try simp only [Act.put, List.setIfInBounds_toArray, List.set_cons_zero, List.set_cons_succ])
      refine wpAnyH_take (i := 50) (oi := { dst := some 91, op := Go.Op.pick (Go.Operand.tmp 83) (Go.Operand.tmp 90) (Go.Operand.const (Go.Value.bool false)), type := 4, pos := "laws.go:237", after := #[{ on := 42, ground := Go.Ground.data }, { on := 49, ground := Go.Ground.data }], guard := none }) (v := ?_) rfl (by kernel_rfl) (by kernel_rfl) (by kernel_rfl) (fun _ _ _ h => h) (Or.inl ⟨by rfl, ?_⟩) (by assumption) ?_
      rotate_left 1
      · (intro w hSw; (try dsimp only at hSw); go_simp <;> with_reducible rfl)
      (try simp only [Act.put, List.setIfInBounds_toArray, List.set_cons_zero, List.set_cons_succ])
      refine wpAnyH_take (i := 51) (oi := { dst := some 2, op := Go.Op.assign (Go.Operand.tmp 91), type := 4, pos := "laws.go:237", after := #[{ on := 50, ground := Go.Ground.data }, { on := 47, ground := Go.Ground.chain }, { on := 0, ground := Go.Ground.phase }, { on := 1, ground := Go.Ground.phase }, { on := 2, ground := Go.Ground.phase }, { on := 3, ground := Go.Ground.phase }, { on := 4, ground := Go.Ground.phase }, { on := 5, ground := Go.Ground.phase }, { on := 6, ground := Go.Ground.phase }, { on := 7, ground := Go.Ground.phase }, { on := 8, ground := Go.Ground.phase }, { on := 9, ground := Go.Ground.phase }, { on := 10, ground := Go.Ground.phase }, { on := 11, ground := Go.Ground.phase }, { on := 12, ground := Go.Ground.phase }, { on := 13, ground := Go.Ground.phase }, { on := 14, ground := Go.Ground.phase }, { on := 15, ground := Go.Ground.phase }, { on := 16, ground := Go.Ground.phase }, { on := 17, ground := Go.Ground.phase }, { on := 18, ground := Go.Ground.phase }, { on := 19, ground := Go.Ground.phase }, { on := 20, ground := Go.Ground.phase }, { on := 21, ground := Go.Ground.phase }, { on := 22, ground := Go.Ground.phase }, { on := 23, ground := Go.Ground.phase }, { on := 24, ground := Go.Ground.phase }, { on := 25, ground := Go.Ground.phase }, { on := 26, ground := Go.Ground.phase }, { on := 27, ground := Go.Ground.phase }, { on := 28, ground := Go.Ground.phase }, { on := 29, ground := Go.Ground.phase }, { on := 30, ground := Go.Ground.phase }, { on := 31, ground := Go.Ground.phase }, { on := 32, ground := Go.Ground.phase }, { on := 33, ground := Go.Ground.phase }, { on := 34, ground := Go.Ground.phase }, { on := 35, ground := Go.Ground.phase }, { on := 36, ground := Go.Ground.phase }, { on := 37, ground := Go.Ground.phase }, { on := 38, ground := Go.Ground.phase }, { on := 39, ground := Go.Ground.phase }, { on := 40, ground := Go.Ground.phase }, { on := 41, ground := Go.Ground.phase }, { on := 42, ground := Go.Ground.phase }, { on := 43, ground := Go.Ground.phase }, { on := 44, ground := Go.Ground.phase }, { on := 45, ground := Go.Ground.phase }, { on := 46, ground := Go.Ground.phase }, { on := 47, ground := Go.Ground.phase }, { on := 48, ground := Go.Ground.phase }, { on := 49, ground := Go.Ground.phase }, { on := 50, ground := Go.Ground.phase }], guard := none }) (v := ?_) rfl (by kernel_rfl) (by kernel_rfl) (by kernel_rfl) (fun _ _ _ h => h) (Or.inl ⟨by rfl, ?_⟩) (by assumption) ?_
      rotate_left 1
      · (intro w hSw; (try dsimp only at hSw); go_simp <;> with_reducible rfl)
      (try simp only [Act.put, List.setIfInBounds_toArray, List.set_cons_zero, List.set_cons_succ])
      refine wpAnyH_done (by kernel_rfl) ?_ _
      go_wp2_with fail
      go_ret
      exact ⟨by simp, HT.below⟩
    · have HQ := HZ.out rfl
      have t4 : decide (q2 ≤ zz) = true := by rw [decide_eq_true_eq]; exact HQ.1
      have t5 : decide (zz ≤ q5) = true := by rw [decide_eq_true_eq]; exact HQ.2
      clear HQ
      go_wp2_with fail
      go_region_held3 (fun w' => w'.cell? ⟨k1, 0, none⟩ = some (.int .i64 a0) ∧ w'.cell? ⟨k1, 1, none⟩ = some (.int .i64 a1) ∧ w'.cell? ⟨k1, 2, none⟩ = some (.int .i64 a2) ∧ w'.cell? ⟨k1, 3, none⟩ = some (.int .i64 a3) ∧ w'.cell? ⟨k1, 4, none⟩ = some (.int .i64 a4) ∧ w'.cell? ⟨k1, 5, none⟩ = some (.int .i64 a5) ∧ w'.cell? ⟨k1, 6, none⟩ = some (.int .i64 a6) ∧ w'.cell? ⟨k1, 7, none⟩ = some (.int .i64 a7) ∧ w'.cell? ⟨k1, 8, none⟩ = some (.int .i64 a8) ∧ w'.cell? ⟨k1 + 1, 0, none⟩ = some (.int .i64 p) ∧ w'.cell? ⟨k1 + 1, 1, none⟩ = some (.int .i64 q) ∧ w'.cell? ⟨k1 + 1, 2, none⟩ = some (.int .i64 0) ∧ w'.cell? ⟨k3, 0, none⟩ = some (.int .i64 q0) ∧ w'.cell? ⟨k3, 1, none⟩ = some (.int .i64 q1) ∧ w'.cell? ⟨k3, 2, none⟩ = some (.int .i64 q2) ∧ w'.cell? ⟨k3, 3, none⟩ = some (.int .i64 q3) ∧ w'.cell? ⟨k3, 4, none⟩ = some (.int .i64 q4) ∧ w'.cell? ⟨k3, 5, none⟩ = some (.int .i64 q5))
        (first | (with_reducible exact HC _ HT) | (with_reducible exact HC _ HT.drew))
        (first | (go_at_call 12; (with_reducible refine (HCv.out _).mono ?_); rintro e w1 ⟨rfl, hb1⟩; (first | (have HT := HT.later hb1) | (have HT := HT.drew.later hb1))) | (go_at_call 13; (with_reducible refine (flipTriangle_any _ _ _ _ _ _ _ _ _ _).mono ?_); rintro e w1 ⟨rfl, hb1⟩; (first | (have HT := HT.later hb1) | (have HT := HT.drew.later hb1))) | (go_at_call 16; (with_reducible refine (HA1.out _).mono ?_); rintro e w1 ⟨rfl, hb1⟩; (first | (have HT := HT.later hb1) | (have HT := HT.drew.later hb1))) | (go_at_call 16; (with_reducible refine (HA2.out _).mono ?_); rintro e w1 ⟨rfl, hb1⟩; (first | (have HT := HT.later hb1) | (have HT := HT.drew.later hb1))))
      go_wp2_with fail
      go_ret
      exact ⟨by simp, HT.below⟩
  · have hlt2 : (1048576 : Int) < (x0.length : Int) := by omega
    clear hbig H8 HR
    go_enter Try.func4, Try.ntmps4
    go_wp2_with fail
    go_ret
    exact ⟨rfl, Below.refl _ _⟩

set_option maxRecDepth 100000 in
theorem lifted (os : Os) (started : os.Started) (H : Type) (enc : TypeId × Value → H) :
    ReturnsInHanded {} Try.checked os 4 .any (Rows.fnDepthSpec.pre6 enc Try.prog Try.f4 Rows.fnDepthRow.domain false) (Rows.fnDepthSpec.post enc Try.prog Try.f4 false true false false) := by
  refine returnsInHanded_of_change (C := Try.checked) own started (by kernel_rfl) Try.func4
    (ChangeSpec.witness6 (enc := enc) (C := Try.checked) false ⟨#[], #[.slice none 0 0], []⟩ 8 (by kernel_rfl) (by kernel_rfl) (by kernel_rfl) (by kernel_rfl)) ?_
  intro W base args ds gs before hval0 hW hcnd _
  have hval : ∀ (j : Nat) t v, Try.f4.params[j]? = some t → args[j]? = some v → Value.okWide Try.prog W .any base t v := hval0
  have hW' := hW
  obtain ⟨p, q, hA0, hV, rfl, hfz, hnd⟩ := hW
  have hA : DataW.TrodAll enc Try.prog W 0 (fun _ => true) true Try.f4.params.toList args.toList ds p := hA0
  rw [Try.params4] at hA hval
  obtain ⟨v0, vs0, d0, ds0, p0, q0, hargs, rfl, rfl, h0, r1000⟩ := trodAll_cons hA
  obtain ⟨rfl, rfl, rfl⟩ := trodAll_nil r1000
  obtain rfl : args = #[v0] := by cases args; simp_all
  obtain ⟨rfl, rfl⟩ := trodVars_none hV
  obtain ⟨a0, len0, cap0, rfl⟩ := okWide_slice Try.underlying22 (hval 0 22 v0 rfl rfl)
  have k0 := h0
  have lt0 : ∀ x ∈ p0, x.block < W.heap.size := by obtain ⟨m, hm⟩ := k0; exact DataW.trod_lt m _ _ _ hm
  obtain ⟨x0, rfl, r0, m0, w0⟩ : ∃ xs : List Int, len0 = xs.length ∧ Row (Value.int .u8) W W.heap.size a0 xs ∧ xs.length ≤ maxLen ∧ ∀ x ∈ xs, (Lit.int .u8 x).wf = true := by
    obtain ⟨fuel, hf⟩ := h0
    rcases open_ints Try.underlying22 Try.underlying5 (by kernel_rfl) hf with ⟨hcs, _⟩ | ⟨x, l, c, zs, hcs, _, hl, hm, hz, _, hcell, hwz⟩
    · simp [Value.cells] at hcs
      obtain ⟨rfl, rfl, rfl⟩ := hcs
      exact ⟨[], rfl, Row.nil, Nat.zero_le _, fun x hx => by cases hx⟩
    · simp [Value.cells] at hcs
      obtain ⟨rfl, rfl, rfl⟩ := hcs
      exact row_of_cells (d := (0 : Int)) hl hm (by simpa using hz) hcell hwz
  clear hA0
  refine (walk W a0 cap0 x0 r0 m0 w0).mono fun e W' ⟨he, bel⟩ => ?_
  subst he
  exact ⟨_, rfl, _, _, _, [], _, [], hW', trodAll_mk1 (shut_bool Try.underlying4 _), (trodAll_cons_mk (Below.trod laidOut (by kernel_rfl) (of_decide_eq_true (by kernel_rfl)) k0 bel lt0) trodAll_mk0), rfl, bel.frame _, fun h => by cases h⟩

theorem proved : Rows.FnDepthSaid :=
  OpenClaim.holds_of_wide 4 Try.f4 rfl rfl rfl rfl rfl rfl rfl ⟨rfl, rfl, rfl, rfl, rfl⟩ rfl rfl rfl rfl rfl (by kernel_rfl) Try.func4 (by kernel_rfl)
    (of_decide_eq_true (by kernel_rfl)) (by unfold Func.isWrapper; first | (rw [if_pos (by decide +kernel)]; kernel_rfl) | (rw [if_neg (by decide +kernel)]; exact ⟨rfl, rfl⟩))
    (fun os started H enc _ => lifted os started H enc)
#print axioms proved
end Go.Proofs.Ytjjafbcfmijppaa.fnDepth
