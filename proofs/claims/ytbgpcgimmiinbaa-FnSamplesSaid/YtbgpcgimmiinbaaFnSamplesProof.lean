/-
  Proved: the law FnSamples returns true for every input and its arguments read behind the call as they read before. Conditions: none of our own; those of the given row alone.
-/
import Derived.Test.YtbgpcgimmiinbaaRows
import Derived.WalkKit
import Derived.ProofKit
import Derived.OpenShut
import Derived.ShutString
import Derived.SliceStrings
import Derived.ChangeOld
import Derived.Below
import Derived.Test.YtbgpcgimmiinbaaKV
import Derived.Test.YtbgpcgimmiinbaaMem
import Derived.Test.YtbgpcgimmiinbaaInts
import Derived.Test.YtbgpcgimmiinbaaIntS
import Derived.Test.YtbgpcgimmiinbaaCur
import Derived.Test.YtbgpcgimmiinbaaFlat
import Derived.Test.YtbgpcgimmiinbaaVbox
import Derived.Test.YtbgpcgimmiinbaaVec
import Derived.Test.YtbgpcgimmiinbaaHeld
import Derived.Test.YtbgpcgimmiinbaaRowC
import Derived.Test.YtbgpcgimmiinbaaVDraw
import Derived.Test.YtbgpcgimmiinbaaCDrP
import Derived.Test.YtbgpcgimmiinbaaCam
import Derived.Test.YtbgpcgimmiinbaaCPix
import Derived.Test.YtbgpcgimmiinbaaSmp
import Derived.Test.YtbgpcgimmiinbaaHsh
import Derived.Test.YtbgpcgimmiinbaaPx
import Derived.Test.YtbgpcgimmiinbaaSv
import Derived.Test.YtbgpcgimmiinbaaSam
import Derived.Handy
import Derived.Deep.RegionHeld3
import Derived.Deep.DeepCutAuto
namespace Go.Proofs.Ytbgpcgimmiinbaa.fnSamples
open Go.ChangeShapes Go.WideShapes Go.ChangeAt Go.RowKit
open Go.ChangeMaps (open_string shut_string)
set_option linter.unusedVariables false

theorem own : ownKnob Try.prog.godebug = none := by kernel_rfl
theorem laidOut : laidOutB Try.prog = true := by kernel_rfl
set_option maxRecDepth 100000 in
set_option maxHeartbeats 8000000 in
theorem walk (w : World) (a0 : Option Addr) (c0 : Nat) (x0 : List Int) (r0 : Row (Value.int .u8) w w.heap.size a0 x0) (m0 : x0.length ≤ maxLen) (w0 : ∀ x ∈ x0, (Lit.int .u8 x).wf = true) :
    Calls Try.prog 3 #[.slice a0 x0.length c0] w fun e w' => e = .returned (.bool true) ∧ Below w.heap.size w w' := by
  have H8 : Hid (∀ x ∈ x0, 0 ≤ x ∧ x ≤ 255) := Lib.hid (fun x hx => bounds_u8 (w0 x hx))
  have HR : Hid (Row U8 w w.heap.size a0 x0) := Lib.hid r0
  clear w0 r0
  by_cases hbig : x0.length ≤ 1048576
  case neg =>
    go_enter Try.func3, Try.ntmps3
    go_wp2_with fail
    go_ret
    exact ⟨rfl, Below.refl _ _⟩
  case pos =>
    go_enter Try.func3, Try.ntmps3
    go_wp2_with fail
    refine (makeCamera_any _ _ x0 _ HR.out H8.out hbig).mono ?_
    rintro e w1 ⟨q0, q1, q2, q3, q4, q5, q6, hG, rfl, hb1⟩
    have HT := ((Held.nil w).later hb1).new #[.int .i64 q0, .int .i64 q1, .int .i64 q2, .int .i64 q3, .bool q4, .int .i64 q5, .int .i64 q6] 24
    have HOK := Lib.hid (camGood_ok hG)
    have HBi : Hid (2 ≤ q0 ∧ q0 ≤ 5) := Lib.hid hG.1
    have HBj : Hid (2 ≤ q1 ∧ q1 ≤ 5) := Lib.hid hG.2.1
    clear hb1 hG
    go_upto_region 4 with fail
    obtain ⟨W2, hW2⟩ : ∃ X, X = w1.alloc (.cells #[.int .i64 q0, .int .i64 q1, .int .i64 q2, .int .i64 q3, .bool q4, .int .i64 q5, .int .i64 q6] 24) := ⟨_, rfl⟩
    rw [← hW2] at HT ⊢
    clear hW2
    generalize w1.heap.size = kc at HT ⊢
    have HTC : Hid (Held w W2 [(kc, [.int .i64 q0, .int .i64 q1, .int .i64 q2, .int .i64 q3, .bool q4, .int .i64 q5, .int .i64 q6])]) := Lib.hid HT
    clear HT
    go_cut [4] (fun x wx => ∃ n : Nat, (n = 1 ∨ n = 2 ∨ n = 4) ∧ x = .int .i64 ((n : Nat) : Int) ∧ Held w wx [(kc, [.int .i64 q0, .int .i64 q1, .int .i64 q2, .int .i64 q3, .bool q4, .int .i64 q5, .int .i64 q6])])
    case first =>
      go_wp2_with fail
      have HT := HTC.out.new #[.int .i64 1, .int .i64 2, .int .i64 4] 3
      have HR3 := Lib.hid (HR.out.later HT.below)
      refine (makeNum_any _ _ x0 _ _ HR3.out H8.out hbig (by omega) (by omega)).mono ?_
      rintro e w3 ⟨m1, m1l, m1h, rfl, hb3⟩
      have HT := HT.later hb3
      have b0 := (HT.box 0).c 0
      have b1 := (HT.box 0).c 1
      have b2 := (HT.box 0).c 2
      have hm : m1.tmod 3 = 0 ∨ m1.tmod 3 = 1 ∨ m1.tmod 3 = 2 := by rw [Int.tmod_eq_emod_of_nonneg m1l]; omega
      have HT := HT.tail
      rcases hm with hm | hm | hm
      · have hm2 : m1 % 3 = 0 := by rw [← Int.tmod_eq_emod_of_nonneg m1l]; exact hm
        clear m1l m1h hb3 HTC HR3
        go_wp2_with fail
        go_meet
        exact ⟨1, .inl rfl, rfl, HT⟩
      · have hm2 : m1 % 3 = 1 := by rw [← Int.tmod_eq_emod_of_nonneg m1l]; exact hm
        clear m1l m1h hb3 HTC HR3
        go_wp2_with fail
        go_meet
        exact ⟨2, .inr (.inl rfl), rfl, HT⟩
      · have hm2 : m1 % 3 = 2 := by rw [← Int.tmod_eq_emod_of_nonneg m1l]; exact hm
        clear m1l m1h hb3 HTC HR3
        go_wp2_with fail
        go_meet
        exact ⟨4, .inr (.inr rfl), rfl, HT⟩
    case rest =>
      obtain ⟨n, hn4, rfl, HT⟩ := hcut
      have HN4 := Lib.hid hn4
      clear HTC hn4
      go_upto_region 5 with fail
      have HC : ∀ W, Held w W [(kc, [.int .i64 q0, .int .i64 q1, .int .i64 q2, .int .i64 q3, .bool q4, .int .i64 q5, .int .i64 q6])] → (W.cell? ⟨kc, 0, none⟩ = some (.int .i64 q0) ∧ W.cell? ⟨kc, 1, none⟩ = some (.int .i64 q1) ∧ W.cell? ⟨kc, 2, none⟩ = some (.int .i64 q2) ∧ W.cell? ⟨kc, 3, none⟩ = some (.int .i64 q3) ∧ W.cell? ⟨kc, 4, none⟩ = some (.bool q4) ∧ W.cell? ⟨kc, 5, none⟩ = some (.int .i64 q5) ∧ W.cell? ⟨kc, 6, none⟩ = some (.int .i64 q6)) := fun W h => ⟨(h.box 0).c 0, (h.box 0).c 1, (h.box 0).c 2, (h.box 0).c 3, (h.box 0).c 4, (h.box 0).c 5, (h.box 0).c 6⟩
      go_cut [5] (fun x wx => ∃ z : Int, 0 ≤ z ∧ z ≤ q0 - 1 ∧ x = .int .i64 z ∧ Held w wx [(kc, [.int .i64 q0, .int .i64 q1, .int .i64 q2, .int .i64 q3, .bool q4, .int .i64 q5, .int .i64 q6])])
      case first =>
        have bq : 2 ≤ q0 ∧ q0 ≤ 5 := HBi.out
        have bq0 : ¬ q0 = 0 := by omega
        have HRW : ∀ W, Held w W [(kc, [.int .i64 q0, .int .i64 q1, .int .i64 q2, .int .i64 q3, .bool q4, .int .i64 q5, .int .i64 q6])] → Row U8 W W.heap.size a0 x0 := fun W h => HR.out.later h.below
        go_region_held3 (fun w' => w'.cell? ⟨kc, 0, none⟩ = some (.int .i64 q0) ∧ w'.cell? ⟨kc, 1, none⟩ = some (.int .i64 q1) ∧ w'.cell? ⟨kc, 2, none⟩ = some (.int .i64 q2) ∧ w'.cell? ⟨kc, 3, none⟩ = some (.int .i64 q3) ∧ w'.cell? ⟨kc, 4, none⟩ = some (.bool q4) ∧ w'.cell? ⟨kc, 5, none⟩ = some (.int .i64 q5) ∧ w'.cell? ⟨kc, 6, none⟩ = some (.int .i64 q6))
          (first | (with_reducible exact HC _ HT) | (with_reducible exact HC _ HT.drew))
          (first | (go_at_call 10; (first | (with_reducible refine (makeNum_any _ _ x0 _ _ (HRW _ HT) H8.out hbig (by omega) (by omega)).mono ?_) | (with_reducible refine (makeNum_any _ _ x0 _ _ (HRW _ HT.drew) H8.out hbig (by omega) (by omega)).mono ?_)); rintro e w5 ⟨m2, m2l, m2h, rfl, hb5⟩; (first | (have HT := HT.later hb5) | (have HT := HT.drew.later hb5)); have hmm := Int.tmod_eq_emod_of_nonneg (b := q0) m2l; have hm0 := Int.emod_nonneg m2 (b := q0) (by omega); have hm1 := Int.emod_lt_of_pos m2 (b := q0) (by omega); have hw : IntKind.i64.wrap (m2 % q0) = m2 % q0 := wrap_in (by omega)))
        all_goals (go_wp2_with fail; go_meet)
        all_goals exact ⟨_, hm0, by omega, rfl, HT⟩
      case rest =>
        obtain ⟨i, i0, i1, rfl, HT⟩ := hcut
        clear HC
        go_upto_region 6 with fail
        have HC : ∀ W, Held w W [(kc, [.int .i64 q0, .int .i64 q1, .int .i64 q2, .int .i64 q3, .bool q4, .int .i64 q5, .int .i64 q6])] → (W.cell? ⟨kc, 0, none⟩ = some (.int .i64 q0) ∧ W.cell? ⟨kc, 1, none⟩ = some (.int .i64 q1) ∧ W.cell? ⟨kc, 2, none⟩ = some (.int .i64 q2) ∧ W.cell? ⟨kc, 3, none⟩ = some (.int .i64 q3) ∧ W.cell? ⟨kc, 4, none⟩ = some (.bool q4) ∧ W.cell? ⟨kc, 5, none⟩ = some (.int .i64 q5) ∧ W.cell? ⟨kc, 6, none⟩ = some (.int .i64 q6)) := fun W h => ⟨(h.box 0).c 0, (h.box 0).c 1, (h.box 0).c 2, (h.box 0).c 3, (h.box 0).c 4, (h.box 0).c 5, (h.box 0).c 6⟩
        go_cut [6] (fun x wx => ∃ z : Int, 0 ≤ z ∧ z ≤ q1 - 1 ∧ x = .int .i64 z ∧ Held w wx [(kc, [.int .i64 q0, .int .i64 q1, .int .i64 q2, .int .i64 q3, .bool q4, .int .i64 q5, .int .i64 q6])])
        case first =>
          have bq : 2 ≤ q1 ∧ q1 ≤ 5 := HBj.out
          have bq0 : ¬ q1 = 0 := by omega
          have HRW : ∀ W, Held w W [(kc, [.int .i64 q0, .int .i64 q1, .int .i64 q2, .int .i64 q3, .bool q4, .int .i64 q5, .int .i64 q6])] → Row U8 W W.heap.size a0 x0 := fun W h => HR.out.later h.below
          go_region_held3 (fun w' => w'.cell? ⟨kc, 0, none⟩ = some (.int .i64 q0) ∧ w'.cell? ⟨kc, 1, none⟩ = some (.int .i64 q1) ∧ w'.cell? ⟨kc, 2, none⟩ = some (.int .i64 q2) ∧ w'.cell? ⟨kc, 3, none⟩ = some (.int .i64 q3) ∧ w'.cell? ⟨kc, 4, none⟩ = some (.bool q4) ∧ w'.cell? ⟨kc, 5, none⟩ = some (.int .i64 q5) ∧ w'.cell? ⟨kc, 6, none⟩ = some (.int .i64 q6))
            (first | (with_reducible exact HC _ HT) | (with_reducible exact HC _ HT.drew))
            (first | (go_at_call 10; (first | (with_reducible refine (makeNum_any _ _ x0 _ _ (HRW _ HT) H8.out hbig (by omega) (by omega)).mono ?_) | (with_reducible refine (makeNum_any _ _ x0 _ _ (HRW _ HT.drew) H8.out hbig (by omega) (by omega)).mono ?_)); rintro e w5 ⟨m2, m2l, m2h, rfl, hb5⟩; (first | (have HT := HT.later hb5) | (have HT := HT.drew.later hb5)); have hmm := Int.tmod_eq_emod_of_nonneg (b := q1) m2l; have hm0 := Int.emod_nonneg m2 (b := q1) (by omega); have hm1 := Int.emod_lt_of_pos m2 (b := q1) (by omega); have hw : IntKind.i64.wrap (m2 % q1) = m2 % q1 := wrap_in (by omega)))
          all_goals (go_wp2_with fail; go_meet)
          all_goals exact ⟨_, hm0, by omega, rfl, HT⟩
        case rest =>
          obtain ⟨j, j0, j1, rfl, HT⟩ := hcut
          clear HC
          obtain ⟨N, hN⟩ : ∃ N, N = n * n := ⟨_, rfl⟩
          have hps : psL (okC q0 q1 q2 q3 q5 q6) q0 q1 i j (n : Int) = pxL i j n N := by
            unfold psL
            rw [HOK.out, (inC_iff ..).2 ⟨i0, i1⟩, (inC_iff ..).2 ⟨j0, j1⟩, (okSd_iff _).2 (by have := HN4.out; omega), hN]
            rfl
          have HPS : Hid (∀ w : World, Calls Try.prog 11 #[cam q0 q1 q2 q3 q4 q5 q6, .int .i64 i, .int .i64 j, .int .i64 (n : Int)] w (SmpsOut (pxL i j n N) w)) := Lib.hid (fun w => by rw [← hps]; exact pixelSamples_any q0 q1 q2 q3 q4 q5 q6 i j (n : Int) w)
          have HLW : Hid (∀ k : Nat, k < N → ∃ x y t p q st ro cl : Int, psm i j n k = (x, y, t, p, q) ∧
              (∀ w : World, Calls Try.prog 12 #[cam q0 q1 q2 q3 q4 q5 q6, .int .i64 x, .int .i64 y] w (fun e w' => e = .returned (.tuple #[.int .i64 i, .int .i64 j, .bool true]) ∧ Below w.heap.size w w')) ∧
              (∀ w : World, Calls Try.prog 13 #[cam q0 q1 q2 q3 q4 q5 q6, smp x y t p q] w (BoolS true w)) ∧
              st = ((16 / n : Nat) : Int) ∧ Int.tdiv (x - i * 16) st = cl ∧ Int.tdiv (y - j * 16) st = ro ∧ Int.tmod (k : Int) (n : Int) = cl ∧ Int.tdiv (k : Int) (n : Int) = ro ∧
              (4 ≤ st ∧ st ≤ 16) ∧ (0 ≤ cl ∧ cl ≤ 3) ∧ (0 ≤ ro ∧ ro ≤ 3) ∧ (0 ≤ x - i * 16 ∧ x - i * 16 ≤ 15) ∧ (0 ≤ y - j * 16 ∧ y - j * 16 ≤ 15)) := Lib.hid (fun k h => psm_law q0 q1 q2 q3 q4 q5 q6 i j n k HOK.out ⟨i0, i1⟩ ⟨j0, j1⟩ HN4.out (by rw [← hN]; exact h))
          have hN16 : N ≤ 16 := by rw [hN]; rcases HN4.out with rfl | rfl | rfl <;> decide
          have hNN : (n : Int) * (n : Int) = (N : Int) := by rw [hN, Int.natCast_mul]
          have bn : 1 ≤ (n : Int) ∧ (n : Int) ≤ 4 := by have := HN4.out; omega
          have bi : 0 ≤ i ∧ i ≤ 4 := by have := HBi.out; omega
          have bj : 0 ≤ j ∧ j ≤ 4 := by have := HBj.out; omega
          obtain ⟨st, hst⟩ : ∃ st : Int, st = ((16 / n : Nat) : Int) := ⟨_, rfl⟩
          have qst : Int.tdiv 16 (n : Int) = st := by rw [hst]; rfl
          have bst : 4 ≤ st ∧ st ≤ 16 := by rw [hst]; rcases HN4.out with rfl | rfl | rfl <;> decide
          have HST := Lib.hid hst
          clear hst hN hps i0 i1 j0 j1 HR H8
          have c0 := (HT.box 0).c 0
          have c1 := (HT.box 0).c 1
          have c2 := (HT.box 0).c 2
          have c3 := (HT.box 0).c 3
          have c4 := (HT.box 0).c 4
          have c5 := (HT.box 0).c 5
          have c6 := (HT.box 0).c 6
          go_wp2_with fail
          refine (HPS.out _).mono ?_
          rintro e w6 ⟨A6, k6, rfl, ho6, hb6⟩
          have HT := HT.later hb6
          have HR6 : RowC 5 sg w6 w6.heap.size A6 (pxL i j n N) := RowC.of_own sg_len ho6 rfl
          rw [pxL_len]
          have HR0 := Lib.hid HR6
          have HT0 := Lib.hid HT
          clear hb6 ho6 HR6 HT c0 c1 c2 c3 c4 c5 c6 HPS
          go_wp2_with fail
          go_loopw [44] (fun x wr => ∃ k : Nat, k ≤ N ∧ x = .int .i64 k ∧ Held w wr [(kc, [.int .i64 q0, .int .i64 q1, .int .i64 q2, .int .i64 q3, .bool q4, .int .i64 q5, .int .i64 q6])] ∧ RowC 5 sg wr wr.heap.size A6 (pxL i j n N)) (fun x _ => N - (intOf x).toNat)
          case atStart => exact ⟨0, Nat.zero_le _, rfl, HT0.out, HR0.out⟩
          case round =>
            clear HT0 HR0
            obtain ⟨k, hk, rfl, HT, hR⟩ := hrel
            by_cases hlt : k < N
            · obtain ⟨x, y, tt, p, q, st', ro, cl, hv, hpx, hvs, hst', hx, hy, hcl, hro, _, bcl, bro, bx, by_⟩ := HLW.out k hlt
              have est : st' = st := hst'.trans HST.out.symm
              rw [est] at hx hy
              obtain ⟨b, o, hA, hbl, hc⟩ := hR.at (k := k) (by rw [pxL_len]; exact hlt)
              have hel : (pxL i j n N)[k]'(by rw [pxL_len]; exact hlt) = (x, y, tt, p, q) := by
                rw [← hv]
                simp [pxL]
              rw [hel] at hc
              obtain ⟨c0, c1, c2, c3, c4⟩ := sg_at hc
              dsimp only at c0 c1 c2 c3 c4
              subst hA
              have HPX := Lib.hid hpx
              have HVS := Lib.hid hvs
              have HRk := Lib.hid hR
              have HLT := Lib.hid hlt
              have hlt' : (k : Int) < (N : Int) := by omega
              have hge' : (0 : Int) ≤ (k : Int) := by omega
              have HT : Held w (wr.alloc (.cells #[.int .i64 x, .int .i64 y, .int .i64 tt, .int .i64 p, .int .i64 q] 31)) [(wr.heap.size, [.int .i64 x, .int .i64 y, .int .i64 tt, .int .i64 p, .int .i64 q]), (kc, [.int .i64 q0, .int .i64 q1, .int .i64 q2, .int .i64 q3, .bool q4, .int .i64 q5, .int .i64 q6])] := HT.new #[.int .i64 x, .int .i64 y, .int .i64 tt, .int .i64 p, .int .i64 q] 31
              have HRA := Lib.hid (RowC.alloc HRk.out (Nat.le_refl _) (.cells #[.int .i64 x, .int .i64 y, .int .i64 tt, .int .i64 p, .int .i64 q] 31))
              clear hv hpx hvs hst' est hel hc hR hbl hlt
              go_upto_region 12 with fail
              obtain ⟨W9, hW9⟩ : ∃ W, W = wr.alloc (.cells #[.int .i64 x, .int .i64 y, .int .i64 tt, .int .i64 p, .int .i64 q] 31) := ⟨_, rfl⟩
              rw [← hW9] at HT HRA ⊢
              have hs9 : wr.heap.size ≤ W9.heap.size := by rw [hW9]; simp
              clear hW9
              have HRA := Lib.hid (HRA.out.more hs9)
              clear HRk hs9
              generalize wr.heap.size = ks at HT ⊢
              have d0 := (HT.box 0).c 0
              have d1 := (HT.box 0).c 1
              have d2 := (HT.box 0).c 2
              have d3 := (HT.box 0).c 3
              have d4 := (HT.box 0).c 4
              have e0 := (HT.box 1).c 0
              have e1 := (HT.box 1).c 1
              have e2 := (HT.box 1).c 2
              have e3 := (HT.box 1).c 3
              have e4 := (HT.box 1).c 4
              have e5 := (HT.box 1).c 5
              have e6 := (HT.box 1).c 6
              go_wp2_with fail
              refine (HPX.out _).mono ?_
              rintro e w7 ⟨rfl, hb7⟩
              have HT := HT.later hb7
              have HRB := Lib.hid (HRA.out.later hb7)
              clear hb7 HRA HPX d0 d1 d2 d3 d4 e0 e1 e2 e3 e4 e5 e6 c0 c1 c2 c3 c4
              go_upto_region 13 with fail
              have HC : ∀ W, Held w W [(ks, [.int .i64 x, .int .i64 y, .int .i64 tt, .int .i64 p, .int .i64 q]), (kc, [.int .i64 q0, .int .i64 q1, .int .i64 q2, .int .i64 q3, .bool q4, .int .i64 q5, .int .i64 q6])] → (W.cell? ⟨kc, 0, none⟩ = some (.int .i64 q0) ∧ W.cell? ⟨kc, 1, none⟩ = some (.int .i64 q1) ∧ W.cell? ⟨kc, 2, none⟩ = some (.int .i64 q2) ∧ W.cell? ⟨kc, 3, none⟩ = some (.int .i64 q3) ∧ W.cell? ⟨kc, 4, none⟩ = some (.bool q4) ∧ W.cell? ⟨kc, 5, none⟩ = some (.int .i64 q5) ∧ W.cell? ⟨kc, 6, none⟩ = some (.int .i64 q6) ∧ W.cell? ⟨ks, 0, none⟩ = some (.int .i64 x) ∧ W.cell? ⟨ks, 1, none⟩ = some (.int .i64 y) ∧ W.cell? ⟨ks, 2, none⟩ = some (.int .i64 tt) ∧ W.cell? ⟨ks, 3, none⟩ = some (.int .i64 p) ∧ W.cell? ⟨ks, 4, none⟩ = some (.int .i64 q)) := fun W h => ⟨(h.box 1).c 0, (h.box 1).c 1, (h.box 1).c 2, (h.box 1).c 3, (h.box 1).c 4, (h.box 1).c 5, (h.box 1).c 6, (h.box 0).c 0, (h.box 0).c 1, (h.box 0).c 2, (h.box 0).c 3, (h.box 0).c 4⟩
              have z1 : ¬ n = 0 := by have := HN4.out; omega
              have z2 : ¬ st = 0 := by omega
              have k1 : IntKind.i64.wrap (i * 16) = i * 16 := wrap_in (by omega)
              have k2 : IntKind.i64.wrap (j * 16) = j * 16 := wrap_in (by omega)
              have k3 : IntKind.i64.wrap (x - i * 16) = x - i * 16 := wrap_in (by omega)
              have k4 : IntKind.i64.wrap (y - j * 16) = y - j * 16 := wrap_in (by omega)
              have k5 : IntKind.i64.wrap cl = cl := wrap_in (by omega)
              have k6_ : IntKind.i64.wrap ro = ro := wrap_in (by omega)
              go_region_held3 (fun w' => w'.cell? ⟨kc, 0, none⟩ = some (.int .i64 q0) ∧ w'.cell? ⟨kc, 1, none⟩ = some (.int .i64 q1) ∧ w'.cell? ⟨kc, 2, none⟩ = some (.int .i64 q2) ∧ w'.cell? ⟨kc, 3, none⟩ = some (.int .i64 q3) ∧ w'.cell? ⟨kc, 4, none⟩ = some (.bool q4) ∧ w'.cell? ⟨kc, 5, none⟩ = some (.int .i64 q5) ∧ w'.cell? ⟨kc, 6, none⟩ = some (.int .i64 q6) ∧ w'.cell? ⟨ks, 0, none⟩ = some (.int .i64 x) ∧ w'.cell? ⟨ks, 1, none⟩ = some (.int .i64 y) ∧ w'.cell? ⟨ks, 2, none⟩ = some (.int .i64 tt) ∧ w'.cell? ⟨ks, 3, none⟩ = some (.int .i64 p) ∧ w'.cell? ⟨ks, 4, none⟩ = some (.int .i64 q))
                (first | (with_reducible exact HC _ HT) | (with_reducible exact HC _ HT.drew))
                (first | (go_at_call 13; (with_reducible refine (HVS.out _).mono ?_); rintro e w8 ⟨rfl, hb8⟩; (first | ((have HT := HT.later hb8); (have HRC := Lib.hid (HRB.out.later hb8))) | ((have HT := HT.drew.later hb8); (have HRC := Lib.hid ((rowC5_drew HRB.out).later hb8))))))
              have HTZ := Lib.hid HT.tail
              clear HT HC k1 k2 k3 k4 k5 k6_ z1 z2
              go_wp2_with fail
              go_roundw
              case rel => exact ⟨k + 1, HLT.out, by go_num, HTZ.out, HRC.out⟩
              case measure => have := HLT.out; simp [intOf]; omega
            · have e : k = N := by omega
              subst e
              clear hlt hk
              go_wp2_with fail
              go_ret
              exact ⟨rfl, HT.below⟩

set_option maxRecDepth 100000 in
theorem lifted (os : Os) (started : os.Started) (H : Type) (enc : TypeId × Value → H) :
    ReturnsInHanded {} Try.checked os 3 .any (Rows.fnSamplesSpec.pre6 enc Try.prog Try.f3 Rows.fnSamplesRow.domain false) (Rows.fnSamplesSpec.post enc Try.prog Try.f3 false true false false) := by
  refine returnsInHanded_of_change (C := Try.checked) own started (by kernel_rfl) Try.func3
    (ChangeSpec.witness6 (enc := enc) (C := Try.checked) false ⟨#[], #[.slice none 0 0], []⟩ 8 (by kernel_rfl) (by kernel_rfl) (by kernel_rfl) (by kernel_rfl)) ?_
  intro W base args ds gs before hval0 hW hcnd _
  have hval : ∀ (j : Nat) t v, Try.f3.params[j]? = some t → args[j]? = some v → Value.okWide Try.prog W .any base t v := hval0
  have hW' := hW
  obtain ⟨p, q, hA0, hV, rfl, hfz, hnd⟩ := hW
  have hA : DataW.TrodAll enc Try.prog W 0 (fun _ => true) true Try.f3.params.toList args.toList ds p := hA0
  rw [Try.params3] at hA hval
  obtain ⟨v0, vs0, d0, ds0, p0, q0, hargs, rfl, rfl, h0, r1000⟩ := trodAll_cons hA
  obtain ⟨rfl, rfl, rfl⟩ := trodAll_nil r1000
  obtain rfl : args = #[v0] := by cases args; simp_all
  obtain ⟨rfl, rfl⟩ := trodVars_none hV
  obtain ⟨a0, len0, cap0, rfl⟩ := okWide_slice Try.underlying22 (hval 0 22 v0 rfl rfl)
  have k0 := h0
  have lt0 : ∀ x ∈ p0, x.block < W.heap.size := by obtain ⟨m, hm⟩ := k0; exact DataW.trod_lt m _ _ _ hm
  obtain ⟨x0, rfl, r0, m0, w0⟩ : ∃ xs : List Int, len0 = xs.length ∧ Row (Value.int .u8) W W.heap.size a0 xs ∧ xs.length ≤ maxLen ∧ ∀ x ∈ xs, (Lit.int .u8 x).wf = true := by
    obtain ⟨fuel, hf⟩ := h0
    rcases open_ints Try.underlying22 Try.underlying5 (by kernel_rfl) hf with ⟨hcs, _⟩ | ⟨x, l, c, zs, hcs, _, hl, hm, hz, _, hcell, hwz⟩
    · simp [Value.cells] at hcs
      obtain ⟨rfl, rfl, rfl⟩ := hcs
      exact ⟨[], rfl, Row.nil, Nat.zero_le _, fun x hx => by cases hx⟩
    · simp [Value.cells] at hcs
      obtain ⟨rfl, rfl, rfl⟩ := hcs
      exact row_of_cells (d := (0 : Int)) hl hm (by simpa using hz) hcell hwz
  clear hA0
  refine (walk W a0 cap0 x0 r0 m0 w0).mono fun e W' ⟨he, bel⟩ => ?_
  subst he
  exact ⟨_, rfl, _, _, _, [], _, [], hW', trodAll_mk1 (shut_bool Try.underlying4 _), (trodAll_cons_mk (Below.trod laidOut (by kernel_rfl) (of_decide_eq_true (by kernel_rfl)) k0 bel lt0) trodAll_mk0), rfl, bel.frame _, fun h => by cases h⟩

theorem proved : Rows.FnSamplesSaid :=
  OpenClaim.holds_of_wide 3 Try.f3 rfl rfl rfl rfl rfl rfl rfl ⟨rfl, rfl, rfl, rfl, rfl⟩ rfl rfl rfl rfl rfl (by kernel_rfl) Try.func3 (by kernel_rfl)
    (of_decide_eq_true (by kernel_rfl)) (by unfold Func.isWrapper; first | (rw [if_pos (by decide +kernel)]; kernel_rfl) | (rw [if_neg (by decide +kernel)]; exact ⟨rfl, rfl⟩))
    (fun os started H enc _ => lifted os started H enc)
#print axioms proved
end Go.Proofs.Ytbgpcgimmiinbaa.fnSamples
