/- InterpolatePatch: the program and its model. -/
import Derived.Test.YtbgpcgimmiinbaaProg
import Derived.Test.YtbgpcgimmiinbaaInts
import Derived.Test.YtbgpcgimmiinbaaVbox
import Derived.Test.YtbgpcgimmiinbaaVec
import Derived.Test.YtbgpcgimmiinbaaHeld
import Derived.Test.YtbgpcgimmiinbaaArr
import Derived.Test.YtbgpcgimmiinbaaTr
import Derived.Test.YtbgpcgimmiinbaaMem
import Derived.Test.YtbgpcgimmiinbaaFlat
import Derived.Test.YtbgpcgimmiinbaaRowC
import Derived.Test.YtbgpcgimmiinbaaPat
import Derived.Test.YtbgpcgimmiinbaaVLerp
import Derived.Test.YtbgpcgimmiinbaaCam
import Derived.WalkKit
import Derived.WalkSpells
import Derived.WalkLawsBesides
import Derived.Lib.Hide
import Derived.Deep.RegionHeld3
import Derived.Deep.QuietTactic
import Derived.BigQuiet
import Derived.Handy
import Derived.Deep.DeepCutAuto
namespace Go.Proofs.Ytbgpcgimmiinbaa
open Go.RowKit

/-- a coordinate of a patch that moves; a corner -/
def itA (t a b : Int) : Int := if inC 0 16 t = true then lerpP (cc a) (cc b) t 16 else a
theorem itA_yes {t : Int} (h : inC 0 16 t = true) (a b : Int) : itA t a b = lerpP (cc a) (cc b) t 16 := if_pos h
theorem itA_no {t : Int} (h : inC 0 16 t = false) (a b : Int) : itA t a b = a := if_neg (by rw [h]; simp)
def itV (t : Int) (u v : V3) : V3 := (lerpP (cc u.1) (cc v.1) t 16, lerpP (cc u.2.1) (cc v.2.1) t 16, lerpP (cc u.2.2) (cc v.2.2) t 16)

set_option maxHeartbeats 8000000 in
theorem interpolatePatch_any (a0 a1 a2 a3 a4 a5 a6 a7 a8 x y z b0 b1 b2 b3 b4 b5 b6 b7 b8 b9 b10 b11 t : Int) (w : World) :
    Calls Try.prog 15 #[tr a0 a1 a2 a3 a4 a5 a6 a7 a8 x y z, tr b0 b1 b2 b3 b4 b5 b6 b7 b8 b9 b10 b11, .int .i64 t] w (TrOut (itA t a0 b0) (itA t a1 b1) (itA t a2 b2) (itA t a3 b3) (itA t a4 b4) (itA t a5 b5) (itA t a6 b6) (itA t a7 b7) (itA t a8 b8) (itA t x b9) (itA t y b10) (itA t z b11) w) := by
  have HT : Held w (((w.alloc (.cells #[.int .i64 a0, .int .i64 a1, .int .i64 a2, .int .i64 a3, .int .i64 a4, .int .i64 a5, .int .i64 a6, .int .i64 a7, .int .i64 a8, .int .i64 x, .int .i64 y, .int .i64 z] 40)).alloc (.cells #[.int .i64 b0, .int .i64 b1, .int .i64 b2, .int .i64 b3, .int .i64 b4, .int .i64 b5, .int .i64 b6, .int .i64 b7, .int .i64 b8, .int .i64 b9, .int .i64 b10, .int .i64 b11] 40)).alloc (.cells #[.int .i64 0, .int .i64 0, .int .i64 0, .int .i64 0, .int .i64 0, .int .i64 0, .int .i64 0, .int .i64 0, .int .i64 0, .int .i64 0, .int .i64 0, .int .i64 0] 40)) [(w.heap.size + 2, [.int .i64 0, .int .i64 0, .int .i64 0, .int .i64 0, .int .i64 0, .int .i64 0, .int .i64 0, .int .i64 0, .int .i64 0, .int .i64 0, .int .i64 0, .int .i64 0]), (w.heap.size + 1, [.int .i64 b0, .int .i64 b1, .int .i64 b2, .int .i64 b3, .int .i64 b4, .int .i64 b5, .int .i64 b6, .int .i64 b7, .int .i64 b8, .int .i64 b9, .int .i64 b10, .int .i64 b11]), (w.heap.size, [.int .i64 a0, .int .i64 a1, .int .i64 a2, .int .i64 a3, .int .i64 a4, .int .i64 a5, .int .i64 a6, .int .i64 a7, .int .i64 a8, .int .i64 x, .int .i64 y, .int .i64 z])] := by
    have h := (((Held.nil w).new #[.int .i64 a0, .int .i64 a1, .int .i64 a2, .int .i64 a3, .int .i64 a4, .int .i64 a5, .int .i64 a6, .int .i64 a7, .int .i64 a8, .int .i64 x, .int .i64 y, .int .i64 z] 40).new #[.int .i64 b0, .int .i64 b1, .int .i64 b2, .int .i64 b3, .int .i64 b4, .int .i64 b5, .int .i64 b6, .int .i64 b7, .int .i64 b8, .int .i64 b9, .int .i64 b10, .int .i64 b11] 40).new #[.int .i64 0, .int .i64 0, .int .i64 0, .int .i64 0, .int .i64 0, .int .i64 0, .int .i64 0, .int .i64 0, .int .i64 0, .int .i64 0, .int .i64 0, .int .i64 0] 40
    simpa only [World.size_alloc] using h
  rcases h : inC 0 16 t with _ | _
  · rw [itA_no h a0 b0, itA_no h a1 b1, itA_no h a2 b2, itA_no h a3 b3, itA_no h a4 b4, itA_no h a5 b5, itA_no h a6 b6, itA_no h a7 b7, itA_no h a8 b8, itA_no h x b9, itA_no h y b10, itA_no h z b11]
    go_enter Try.func15, Try.ntmps15
    go_upto_region 1 with fail
    obtain ⟨W0, hW0⟩ : ∃ W, W = (((w.alloc (.cells #[.int .i64 a0, .int .i64 a1, .int .i64 a2, .int .i64 a3, .int .i64 a4, .int .i64 a5, .int .i64 a6, .int .i64 a7, .int .i64 a8, .int .i64 x, .int .i64 y, .int .i64 z] 40)).alloc (.cells #[.int .i64 b0, .int .i64 b1, .int .i64 b2, .int .i64 b3, .int .i64 b4, .int .i64 b5, .int .i64 b6, .int .i64 b7, .int .i64 b8, .int .i64 b9, .int .i64 b10, .int .i64 b11] 40)).alloc (.cells #[.int .i64 0, .int .i64 0, .int .i64 0, .int .i64 0, .int .i64 0, .int .i64 0, .int .i64 0, .int .i64 0, .int .i64 0, .int .i64 0, .int .i64 0, .int .i64 0] 40)) := ⟨_, rfl⟩
    rw [← hW0] at HT ⊢
    clear hW0
    have c0 := (HT.box 2).c 0
    have c1 := (HT.box 2).c 1
    have c2 := (HT.box 2).c 2
    have c3 := (HT.box 2).c 3
    have c4 := (HT.box 2).c 4
    have c5 := (HT.box 2).c 5
    have c6 := (HT.box 2).c 6
    have c7 := (HT.box 2).c 7
    have c8 := (HT.box 2).c 8
    have c9 := (HT.box 2).c 9
    have c10 := (HT.box 2).c 10
    have c11 := (HT.box 2).c 11
    have r0 := (HT.box 0).c 0
    have r1 := (HT.box 0).c 1
    have r2 := (HT.box 0).c 2
    have r3 := (HT.box 0).c 3
    have r4 := (HT.box 0).c 4
    have r5 := (HT.box 0).c 5
    have r6 := (HT.box 0).c 6
    have r7 := (HT.box 0).c 7
    have r8 := (HT.box 0).c 8
    have r9 := (HT.box 0).c 9
    have r10 := (HT.box 0).c 10
    have r11 := (HT.box 0).c 11
    have g0 := (HT.box 0).f 0
    have g1 := (HT.box 0).f 1
    have g2 := (HT.box 0).f 2
    have g3 := (HT.box 0).f 3
    have g4 := (HT.box 0).f 4
    have g5 := (HT.box 0).f 5
    have g6 := (HT.box 0).f 6
    have g7 := (HT.box 0).f 7
    have g8 := (HT.box 0).f 8
    have g9 := (HT.box 0).f 9
    have g10 := (HT.box 0).f 10
    have g11 := (HT.box 0).f 11
    have HW := HT.below
    clear HT
    go_wp2_with fail
    refine (isWithin_any _ _ _ _).mono ?_
    rintro e w1 ⟨rfl, rfl⟩
    rw [h]
    go_wp2_with fail
    exact bodyPost_ret (v := tr a0 a1 a2 a3 a4 a5 a6 a7 a8 x y z) (by simp [results, Try.results15, go_sem, r0, r1, r2, r3, r4, r5, r6, r7, r8, r9, r10, r11]) rfl ⟨rfl, bset_far12 HW (by omega)⟩
  · obtain ⟨ps, hps⟩ : ∃ ps : List V3, ps = [(a0, a1, a2), (a3, a4, a5), (a6, a7, a8), (x, y, z)] := ⟨_, rfl⟩
    obtain ⟨qs, hqs⟩ : ∃ qs : List V3, qs = [(b0, b1, b2), (b3, b4, b5), (b6, b7, b8), (b9, b10, b11)] := ⟨_, rfl⟩
    obtain ⟨ps0, hp0⟩ : ∃ ps0 : List V3, ps0 = List.replicate 4 ((0, 0, 0) : V3) := ⟨_, rfl⟩
    have hlen : ps.length = 4 := by rw [hps]; rfl
    have hlenq : qs.length = 4 := by rw [hqs]; rfl
    have hlen0 : ps0.length = 4 := by rw [hp0]; first | rfl | exact hlen
    obtain ⟨ys, hys⟩ : ∃ ys, ys = List.zipWith (itV t) ps qs := ⟨_, rfl⟩
    have hleny : ys.length = 4 := by rw [hys, List.length_zipWith, hlen, hlenq]; rfl
    rw [itA_yes h a0 b0, itA_yes h a1 b1, itA_yes h a2 b2, itA_yes h a3 b3, itA_yes h a4 b4, itA_yes h a5 b5, itA_yes h a6 b6, itA_yes h a7 b7, itA_yes h a8 b8, itA_yes h x b9, itA_yes h y b10, itA_yes h z b11]
    have HT : Held w ((((w.alloc (.cells #[.int .i64 a0, .int .i64 a1, .int .i64 a2, .int .i64 a3, .int .i64 a4, .int .i64 a5, .int .i64 a6, .int .i64 a7, .int .i64 a8, .int .i64 x, .int .i64 y, .int .i64 z] 40)).alloc (.cells #[.int .i64 b0, .int .i64 b1, .int .i64 b2, .int .i64 b3, .int .i64 b4, .int .i64 b5, .int .i64 b6, .int .i64 b7, .int .i64 b8, .int .i64 b9, .int .i64 b10, .int .i64 b11] 40)).alloc (.cells #[.int .i64 0, .int .i64 0, .int .i64 0, .int .i64 0, .int .i64 0, .int .i64 0, .int .i64 0, .int .i64 0, .int .i64 0, .int .i64 0, .int .i64 0, .int .i64 0] 40)).alloc (.cells #[.int .i64 0, .int .i64 0, .int .i64 0, .int .i64 0, .int .i64 0, .int .i64 0, .int .i64 0, .int .i64 0, .int .i64 0, .int .i64 0, .int .i64 0, .int .i64 0] 40)) [(w.heap.size + 3, [.int .i64 0, .int .i64 0, .int .i64 0, .int .i64 0, .int .i64 0, .int .i64 0, .int .i64 0, .int .i64 0, .int .i64 0, .int .i64 0, .int .i64 0, .int .i64 0]), (w.heap.size + 2, [.int .i64 0, .int .i64 0, .int .i64 0, .int .i64 0, .int .i64 0, .int .i64 0, .int .i64 0, .int .i64 0, .int .i64 0, .int .i64 0, .int .i64 0, .int .i64 0]), (w.heap.size + 1, [.int .i64 b0, .int .i64 b1, .int .i64 b2, .int .i64 b3, .int .i64 b4, .int .i64 b5, .int .i64 b6, .int .i64 b7, .int .i64 b8, .int .i64 b9, .int .i64 b10, .int .i64 b11]), (w.heap.size, [.int .i64 a0, .int .i64 a1, .int .i64 a2, .int .i64 a3, .int .i64 a4, .int .i64 a5, .int .i64 a6, .int .i64 a7, .int .i64 a8, .int .i64 x, .int .i64 y, .int .i64 z])] := by
      have h := HT.new #[.int .i64 0, .int .i64 0, .int .i64 0, .int .i64 0, .int .i64 0, .int .i64 0, .int .i64 0, .int .i64 0, .int .i64 0, .int .i64 0, .int .i64 0, .int .i64 0] 40
      simpa only [World.size_alloc] using h
    have HT : Held w ((((w.alloc (.cells #[.int .i64 a0, .int .i64 a1, .int .i64 a2, .int .i64 a3, .int .i64 a4, .int .i64 a5, .int .i64 a6, .int .i64 a7, .int .i64 a8, .int .i64 x, .int .i64 y, .int .i64 z] 40)).alloc (.cells #[.int .i64 b0, .int .i64 b1, .int .i64 b2, .int .i64 b3, .int .i64 b4, .int .i64 b5, .int .i64 b6, .int .i64 b7, .int .i64 b8, .int .i64 b9, .int .i64 b10, .int .i64 b11] 40)).alloc (.cells #[.int .i64 0, .int .i64 0, .int .i64 0, .int .i64 0, .int .i64 0, .int .i64 0, .int .i64 0, .int .i64 0, .int .i64 0, .int .i64 0, .int .i64 0, .int .i64 0] 40)).alloc (.cells #[.int .i64 0, .int .i64 0, .int .i64 0, .int .i64 0, .int .i64 0, .int .i64 0, .int .i64 0, .int .i64 0, .int .i64 0, .int .i64 0, .int .i64 0, .int .i64 0] 40)) [(w.heap.size + 3, (partA ps0 ys 0).flatMap vg), (w.heap.size + 2, [.int .i64 0, .int .i64 0, .int .i64 0, .int .i64 0, .int .i64 0, .int .i64 0, .int .i64 0, .int .i64 0, .int .i64 0, .int .i64 0, .int .i64 0, .int .i64 0]), (w.heap.size + 1, qs.flatMap vg), (w.heap.size, ps.flatMap vg)] := by
      have h := HT.pick (cs := [(w.heap.size + 3, [.int .i64 0, .int .i64 0, .int .i64 0, .int .i64 0, .int .i64 0, .int .i64 0, .int .i64 0, .int .i64 0, .int .i64 0, .int .i64 0, .int .i64 0, .int .i64 0]), (w.heap.size + 2, [.int .i64 0, .int .i64 0, .int .i64 0, .int .i64 0, .int .i64 0, .int .i64 0, .int .i64 0, .int .i64 0, .int .i64 0, .int .i64 0, .int .i64 0, .int .i64 0]), (w.heap.size + 1, [.int .i64 b0, .int .i64 b1, .int .i64 b2, .int .i64 b3, .int .i64 b4, .int .i64 b5, .int .i64 b6, .int .i64 b7, .int .i64 b8, .int .i64 b9, .int .i64 b10, .int .i64 b11]), (w.heap.size, [.int .i64 a0, .int .i64 a1, .int .i64 a2, .int .i64 a3, .int .i64 a4, .int .i64 a5, .int .i64 a6, .int .i64 a7, .int .i64 a8, .int .i64 x, .int .i64 y, .int .i64 z])]) (by simp)
      rw [partA_zero, hp0, hps, hqs]
      exact h
    have HX := Lib.hid (And.intro hps (And.intro hqs (And.intro hp0 hys)))
    clear hps hqs hp0 hys
    go_enter Try.func15, Try.ntmps15
    go_wp2_with (go_at_call 38; refine (isWithin_any _ _ _ _).mono ?_; rintro e w1 ⟨rfl, rfl⟩; rw [h])
    go_loopw [13] (fun i wr => ∃ k : Nat, k ≤ 4 ∧ i = .int .i64 k ∧ Held w wr [(w.heap.size + 3, (partA ps0 ys k).flatMap vg), (w.heap.size + 2, [.int .i64 0, .int .i64 0, .int .i64 0, .int .i64 0, .int .i64 0, .int .i64 0, .int .i64 0, .int .i64 0, .int .i64 0, .int .i64 0, .int .i64 0, .int .i64 0]), (w.heap.size + 1, qs.flatMap vg), (w.heap.size, ps.flatMap vg)]) (fun i _ => 4 - (intOf i).toNat)
    case atStart => exact ⟨0, Nat.zero_le _, rfl, HT⟩
    case round =>
      clear HT
      obtain ⟨k, hk, rfl, HT⟩ := hrel
      by_cases hlt : k < 4
      · have he := partA_at (xs := ps0) (ys := ys) (by omega) (k := k) (by omega)
        have hs := partA_step (xs := ps0) (ys := ys) (by omega) (k := k) (by omega)
        have hv := List.getElem?_eq_getElem (show k < ps.length by omega)
        have hq := List.getElem?_eq_getElem (show k < qs.length by omega)
        have hy : ys[k]'(by omega) = itV t (ps[k]'(by omega)) (qs[k]'(by omega)) := by simp [HX.out.2.2.2]
        rw [hy] at hs
        generalize ps[k]'(by omega) = v at hs hv
        generalize qs[k]'(by omega) = u at hs hq
        generalize ps0[k]'(by omega) = z at he
        obtain ⟨p0, p1, p2⟩ := v
        obtain ⟨q0, q1, q2⟩ := u
        have HC : ∀ W, Held w W [(w.heap.size + 2, [.int .i64 0, .int .i64 0, .int .i64 0, .int .i64 0, .int .i64 0, .int .i64 0, .int .i64 0, .int .i64 0, .int .i64 0, .int .i64 0, .int .i64 0, .int .i64 0]), (w.heap.size + 1, qs.flatMap vg), (w.heap.size, ps.flatMap vg)] → (W.cell? ⟨w.heap.size, k * 3, none⟩ = some (.int .i64 p0) ∧ W.cell? ⟨w.heap.size, k * 3 + 1, none⟩ = some (.int .i64 p1) ∧ W.cell? ⟨w.heap.size, k * 3 + 2, none⟩ = some (.int .i64 p2) ∧ W.cell? ⟨w.heap.size + 1, k * 3, none⟩ = some (.int .i64 q0) ∧ W.cell? ⟨w.heap.size + 1, k * 3 + 1, none⟩ = some (.int .i64 q1) ∧ W.cell? ⟨w.heap.size + 1, k * 3 + 2, none⟩ = some (.int .i64 q2)) := fun W h => ⟨((h.box 2).v3 hv).1, ((h.box 2).v3 hv).2.1, ((h.box 2).v3 hv).2.2, ((h.box 1).v3 hq).1, ((h.box 1).v3 hq).2.1, ((h.box 1).v3 hq).2.2⟩
        have hlt' : (k : Int) < 4 := by omega
        have hge' : (0 : Int) ≤ (k : Int) := by omega
        have HE := Lib.hid he
        have HS := Lib.hid hs
        clear hy he hs hv hq
        go_wp2_with fail
        go_region_held3 (fun w' => w'.cell? ⟨w.heap.size, k * 3, none⟩ = some (.int .i64 p0) ∧ w'.cell? ⟨w.heap.size, k * 3 + 1, none⟩ = some (.int .i64 p1) ∧ w'.cell? ⟨w.heap.size, k * 3 + 2, none⟩ = some (.int .i64 p2) ∧ w'.cell? ⟨w.heap.size + 1, k * 3, none⟩ = some (.int .i64 q0) ∧ w'.cell? ⟨w.heap.size + 1, k * 3 + 1, none⟩ = some (.int .i64 q1) ∧ w'.cell? ⟨w.heap.size + 1, k * 3 + 2, none⟩ = some (.int .i64 q2))
          (first | (with_reducible exact HC _ HT.tail) | (with_reducible exact HC _ HT.drew.tail) | (with_reducible exact HC _ (HT.tail.far3 (by omega) (by simp <;> omega) _ _ _)) | (with_reducible exact HC _ (HT.tail.far3 (by omega) (by simp <;> omega) _ _ _).drew))
          (first | (go_at_call 46; (with_reducible refine (lerp_any _ _ _ _ _ _ _ _ _).mono ?_); rintro e w1 ⟨rfl, hb1⟩; (first | (have HT := HT.later hb1) | (have HT := HT.drew.later hb1)); obtain ⟨d0, d1, d2⟩ := (HT.box 0).v3 HE.out; obtain ⟨f0, f1, f2⟩ := (HT.box 0).v3f HE.out))
        have HP := HT.putV (by omega) (by simp <;> omega) k (itV t (p0, p1, p2) (q0, q1, q2))
        rw [HS.out] at HP
        dsimp only [itV] at HP
        have HH := Lib.hid HP
        clear HT HP HE HS HC d0 d1 d2 f0 f1 f2
        go_wp2_with fail
        go_roundw
        case rel => exact ⟨k + 1, by omega, by go_num, by first | exact HH.out | exact HH.out.drew⟩
        case measure => simp [intOf]; omega
      · have e : k = 4 := by omega
        subst e
        obtain ⟨hps, hqs, hp0, hys⟩ := HX.out
        have hz : partA ps0 ys 4 = ys := by have := partA_all (xs := ps0) (ys := ys) (by omega); rw [hleny] at this; exact this
        have HT := HT.pick (cs := [(w.heap.size + 3, (partA ps0 ys 4).flatMap vg), (w.heap.size + 2, [.int .i64 0, .int .i64 0, .int .i64 0, .int .i64 0, .int .i64 0, .int .i64 0, .int .i64 0, .int .i64 0, .int .i64 0, .int .i64 0, .int .i64 0, .int .i64 0])]) (by simp)
        rw [hz] at HT
        have HT : Held w wr [(w.heap.size + 3, [.int .i64 (lerpP (cc a0) (cc b0) t 16), .int .i64 (lerpP (cc a1) (cc b1) t 16), .int .i64 (lerpP (cc a2) (cc b2) t 16), .int .i64 (lerpP (cc a3) (cc b3) t 16), .int .i64 (lerpP (cc a4) (cc b4) t 16), .int .i64 (lerpP (cc a5) (cc b5) t 16), .int .i64 (lerpP (cc a6) (cc b6) t 16), .int .i64 (lerpP (cc a7) (cc b7) t 16), .int .i64 (lerpP (cc a8) (cc b8) t 16), .int .i64 (lerpP (cc x) (cc b9) t 16), .int .i64 (lerpP (cc y) (cc b10) t 16), .int .i64 (lerpP (cc z) (cc b11) t 16)]), (w.heap.size + 2, [.int .i64 0, .int .i64 0, .int .i64 0, .int .i64 0, .int .i64 0, .int .i64 0, .int .i64 0, .int .i64 0, .int .i64 0, .int .i64 0, .int .i64 0, .int .i64 0])] := by
          rw [hys, hps, hqs] at HT
          exact HT
        obtain ⟨u0, hu0⟩ : ∃ u, u = lerpP (cc a0) (cc b0) t 16 := ⟨_, rfl⟩
        rw [← hu0] at HT
        have HU0 := Lib.hid hu0
        clear hu0
        obtain ⟨u1, hu1⟩ : ∃ u, u = lerpP (cc a1) (cc b1) t 16 := ⟨_, rfl⟩
        rw [← hu1] at HT
        have HU1 := Lib.hid hu1
        clear hu1
        obtain ⟨u2, hu2⟩ : ∃ u, u = lerpP (cc a2) (cc b2) t 16 := ⟨_, rfl⟩
        rw [← hu2] at HT
        have HU2 := Lib.hid hu2
        clear hu2
        obtain ⟨u3, hu3⟩ : ∃ u, u = lerpP (cc a3) (cc b3) t 16 := ⟨_, rfl⟩
        rw [← hu3] at HT
        have HU3 := Lib.hid hu3
        clear hu3
        obtain ⟨u4, hu4⟩ : ∃ u, u = lerpP (cc a4) (cc b4) t 16 := ⟨_, rfl⟩
        rw [← hu4] at HT
        have HU4 := Lib.hid hu4
        clear hu4
        obtain ⟨u5, hu5⟩ : ∃ u, u = lerpP (cc a5) (cc b5) t 16 := ⟨_, rfl⟩
        rw [← hu5] at HT
        have HU5 := Lib.hid hu5
        clear hu5
        obtain ⟨u6, hu6⟩ : ∃ u, u = lerpP (cc a6) (cc b6) t 16 := ⟨_, rfl⟩
        rw [← hu6] at HT
        have HU6 := Lib.hid hu6
        clear hu6
        obtain ⟨u7, hu7⟩ : ∃ u, u = lerpP (cc a7) (cc b7) t 16 := ⟨_, rfl⟩
        rw [← hu7] at HT
        have HU7 := Lib.hid hu7
        clear hu7
        obtain ⟨u8, hu8⟩ : ∃ u, u = lerpP (cc a8) (cc b8) t 16 := ⟨_, rfl⟩
        rw [← hu8] at HT
        have HU8 := Lib.hid hu8
        clear hu8
        obtain ⟨u9, hu9⟩ : ∃ u, u = lerpP (cc x) (cc b9) t 16 := ⟨_, rfl⟩
        rw [← hu9] at HT
        have HU9 := Lib.hid hu9
        clear hu9
        obtain ⟨u10, hu10⟩ : ∃ u, u = lerpP (cc y) (cc b10) t 16 := ⟨_, rfl⟩
        rw [← hu10] at HT
        have HU10 := Lib.hid hu10
        clear hu10
        obtain ⟨u11, hu11⟩ : ∃ u, u = lerpP (cc z) (cc b11) t 16 := ⟨_, rfl⟩
        rw [← hu11] at HT
        have HU11 := Lib.hid hu11
        clear hu11
        have c0 := (HT.box 0).c 0
        have c1 := (HT.box 0).c 1
        have c2 := (HT.box 0).c 2
        have c3 := (HT.box 0).c 3
        have c4 := (HT.box 0).c 4
        have c5 := (HT.box 0).c 5
        have c6 := (HT.box 0).c 6
        have c7 := (HT.box 0).c 7
        have c8 := (HT.box 0).c 8
        have c9 := (HT.box 0).c 9
        have c10 := (HT.box 0).c 10
        have c11 := (HT.box 0).c 11
        have r0 := (HT.box 1).c 0
        have r1 := (HT.box 1).c 1
        have r2 := (HT.box 1).c 2
        have r3 := (HT.box 1).c 3
        have r4 := (HT.box 1).c 4
        have r5 := (HT.box 1).c 5
        have r6 := (HT.box 1).c 6
        have r7 := (HT.box 1).c 7
        have r8 := (HT.box 1).c 8
        have r9 := (HT.box 1).c 9
        have r10 := (HT.box 1).c 10
        have r11 := (HT.box 1).c 11
        have g0 := (HT.box 1).f 0
        have g1 := (HT.box 1).f 1
        have g2 := (HT.box 1).f 2
        have g3 := (HT.box 1).f 3
        have g4 := (HT.box 1).f 4
        have g5 := (HT.box 1).f 5
        have g6 := (HT.box 1).f 6
        have g7 := (HT.box 1).f 7
        have g8 := (HT.box 1).f 8
        have g9 := (HT.box 1).f 9
        have g10 := (HT.box 1).f 10
        have g11 := (HT.box 1).f 11
        have HW := HT.below
        clear HT
        clear hlt hk hlen hlenq hlen0 hleny HX hz hps hqs hp0 hys
        go_wp2_with fail
        exact bodyPost_ret (v := tr u0 u1 u2 u3 u4 u5 u6 u7 u8 u9 u10 u11) (by simp [results, Try.results15, go_sem, r0, r1, r2, r3, r4, r5, r6, r7, r8, r9, r10, r11]) rfl ⟨by rw [HU0.out, HU1.out, HU2.out, HU3.out, HU4.out, HU5.out, HU6.out, HU7.out, HU8.out, HU9.out, HU10.out, HU11.out], bset_far12 HW (by omega)⟩

set_option maxHeartbeats 8000000 in
theorem sInterpolatePatch_any (a0 a1 a2 a3 a4 a5 a6 a7 a8 x y z b0 b1 b2 b3 b4 b5 b6 b7 b8 b9 b10 b11 t : Int) (w : World) :
    Calls Try.prog 30 #[tr a0 a1 a2 a3 a4 a5 a6 a7 a8 x y z, tr b0 b1 b2 b3 b4 b5 b6 b7 b8 b9 b10 b11, .int .i64 t] w (TrOut (itA t a0 b0) (itA t a1 b1) (itA t a2 b2) (itA t a3 b3) (itA t a4 b4) (itA t a5 b5) (itA t a6 b6) (itA t a7 b7) (itA t a8 b8) (itA t x b9) (itA t y b10) (itA t z b11) w) := by
  have HT : Held w ((((w.alloc (.cells #[.int .i64 a0, .int .i64 a1, .int .i64 a2, .int .i64 a3, .int .i64 a4, .int .i64 a5, .int .i64 a6, .int .i64 a7, .int .i64 a8, .int .i64 x, .int .i64 y, .int .i64 z] 40)).alloc (.cells #[.int .i64 b0, .int .i64 b1, .int .i64 b2, .int .i64 b3, .int .i64 b4, .int .i64 b5, .int .i64 b6, .int .i64 b7, .int .i64 b8, .int .i64 b9, .int .i64 b10, .int .i64 b11] 40)).alloc (.cells #[.int .i64 0, .int .i64 0, .int .i64 0, .int .i64 0, .int .i64 0, .int .i64 0, .int .i64 0, .int .i64 0, .int .i64 0, .int .i64 0, .int .i64 0, .int .i64 0] 40)).alloc (.cells #[.int .i64 a0, .int .i64 a1, .int .i64 a2, .int .i64 a3, .int .i64 a4, .int .i64 a5, .int .i64 a6, .int .i64 a7, .int .i64 a8, .int .i64 x, .int .i64 y, .int .i64 z] 40)) [(w.heap.size + 3, [.int .i64 a0, .int .i64 a1, .int .i64 a2, .int .i64 a3, .int .i64 a4, .int .i64 a5, .int .i64 a6, .int .i64 a7, .int .i64 a8, .int .i64 x, .int .i64 y, .int .i64 z]), (w.heap.size + 2, [.int .i64 0, .int .i64 0, .int .i64 0, .int .i64 0, .int .i64 0, .int .i64 0, .int .i64 0, .int .i64 0, .int .i64 0, .int .i64 0, .int .i64 0, .int .i64 0]), (w.heap.size + 1, [.int .i64 b0, .int .i64 b1, .int .i64 b2, .int .i64 b3, .int .i64 b4, .int .i64 b5, .int .i64 b6, .int .i64 b7, .int .i64 b8, .int .i64 b9, .int .i64 b10, .int .i64 b11]), (w.heap.size, [.int .i64 a0, .int .i64 a1, .int .i64 a2, .int .i64 a3, .int .i64 a4, .int .i64 a5, .int .i64 a6, .int .i64 a7, .int .i64 a8, .int .i64 x, .int .i64 y, .int .i64 z])] := by
    have h := ((((Held.nil w).new #[.int .i64 a0, .int .i64 a1, .int .i64 a2, .int .i64 a3, .int .i64 a4, .int .i64 a5, .int .i64 a6, .int .i64 a7, .int .i64 a8, .int .i64 x, .int .i64 y, .int .i64 z] 40).new #[.int .i64 b0, .int .i64 b1, .int .i64 b2, .int .i64 b3, .int .i64 b4, .int .i64 b5, .int .i64 b6, .int .i64 b7, .int .i64 b8, .int .i64 b9, .int .i64 b10, .int .i64 b11] 40).new #[.int .i64 0, .int .i64 0, .int .i64 0, .int .i64 0, .int .i64 0, .int .i64 0, .int .i64 0, .int .i64 0, .int .i64 0, .int .i64 0, .int .i64 0, .int .i64 0] 40).new #[.int .i64 a0, .int .i64 a1, .int .i64 a2, .int .i64 a3, .int .i64 a4, .int .i64 a5, .int .i64 a6, .int .i64 a7, .int .i64 a8, .int .i64 x, .int .i64 y, .int .i64 z] 40
    simpa only [World.size_alloc] using h
  rcases h : inC 0 16 t with _ | _
  · rw [itA_no h a0 b0, itA_no h a1 b1, itA_no h a2 b2, itA_no h a3 b3, itA_no h a4 b4, itA_no h a5 b5, itA_no h a6 b6, itA_no h a7 b7, itA_no h a8 b8, itA_no h x b9, itA_no h y b10, itA_no h z b11]
    go_enter Try.func30, Try.ntmps30
    go_upto_region 2 with fail
    obtain ⟨W0, hW0⟩ : ∃ W, W = ((((w.alloc (.cells #[.int .i64 a0, .int .i64 a1, .int .i64 a2, .int .i64 a3, .int .i64 a4, .int .i64 a5, .int .i64 a6, .int .i64 a7, .int .i64 a8, .int .i64 x, .int .i64 y, .int .i64 z] 40)).alloc (.cells #[.int .i64 b0, .int .i64 b1, .int .i64 b2, .int .i64 b3, .int .i64 b4, .int .i64 b5, .int .i64 b6, .int .i64 b7, .int .i64 b8, .int .i64 b9, .int .i64 b10, .int .i64 b11] 40)).alloc (.cells #[.int .i64 0, .int .i64 0, .int .i64 0, .int .i64 0, .int .i64 0, .int .i64 0, .int .i64 0, .int .i64 0, .int .i64 0, .int .i64 0, .int .i64 0, .int .i64 0] 40)).alloc (.cells #[.int .i64 a0, .int .i64 a1, .int .i64 a2, .int .i64 a3, .int .i64 a4, .int .i64 a5, .int .i64 a6, .int .i64 a7, .int .i64 a8, .int .i64 x, .int .i64 y, .int .i64 z] 40)) := ⟨_, rfl⟩
    rw [← hW0] at HT ⊢
    clear hW0
    have c0 := (HT.box 0).c 0
    have c1 := (HT.box 0).c 1
    have c2 := (HT.box 0).c 2
    have c3 := (HT.box 0).c 3
    have c4 := (HT.box 0).c 4
    have c5 := (HT.box 0).c 5
    have c6 := (HT.box 0).c 6
    have c7 := (HT.box 0).c 7
    have c8 := (HT.box 0).c 8
    have c9 := (HT.box 0).c 9
    have c10 := (HT.box 0).c 10
    have c11 := (HT.box 0).c 11
    have r0 := (HT.box 1).c 0
    have r1 := (HT.box 1).c 1
    have r2 := (HT.box 1).c 2
    have r3 := (HT.box 1).c 3
    have r4 := (HT.box 1).c 4
    have r5 := (HT.box 1).c 5
    have r6 := (HT.box 1).c 6
    have r7 := (HT.box 1).c 7
    have r8 := (HT.box 1).c 8
    have r9 := (HT.box 1).c 9
    have r10 := (HT.box 1).c 10
    have r11 := (HT.box 1).c 11
    have g0 := (HT.box 1).f 0
    have g1 := (HT.box 1).f 1
    have g2 := (HT.box 1).f 2
    have g3 := (HT.box 1).f 3
    have g4 := (HT.box 1).f 4
    have g5 := (HT.box 1).f 5
    have g6 := (HT.box 1).f 6
    have g7 := (HT.box 1).f 7
    have g8 := (HT.box 1).f 8
    have g9 := (HT.box 1).f 9
    have g10 := (HT.box 1).f 10
    have g11 := (HT.box 1).f 11
    have HW := HT.below
    clear HT
    go_wp2_with fail
    refine (l01In_any _ _ _ _).mono ?_
    rintro e w1 ⟨rfl, rfl⟩
    rw [h]
    go_wp2_with fail
    exact bodyPost_ret (v := tr a0 a1 a2 a3 a4 a5 a6 a7 a8 x y z) (by simp [results, Try.results30, go_sem, r0, r1, r2, r3, r4, r5, r6, r7, r8, r9, r10, r11]) rfl ⟨rfl, bset_far12 HW (by omega)⟩
  · obtain ⟨ps, hps⟩ : ∃ ps : List V3, ps = [(a0, a1, a2), (a3, a4, a5), (a6, a7, a8), (x, y, z)] := ⟨_, rfl⟩
    obtain ⟨qs, hqs⟩ : ∃ qs : List V3, qs = [(b0, b1, b2), (b3, b4, b5), (b6, b7, b8), (b9, b10, b11)] := ⟨_, rfl⟩
    obtain ⟨ps0, hp0⟩ : ∃ ps0 : List V3, ps0 = ps := ⟨_, rfl⟩
    have hlen : ps.length = 4 := by rw [hps]; rfl
    have hlenq : qs.length = 4 := by rw [hqs]; rfl
    have hlen0 : ps0.length = 4 := by rw [hp0]; first | rfl | exact hlen
    obtain ⟨ys, hys⟩ : ∃ ys, ys = List.zipWith (itV t) ps qs := ⟨_, rfl⟩
    have hleny : ys.length = 4 := by rw [hys, List.length_zipWith, hlen, hlenq]; rfl
    rw [itA_yes h a0 b0, itA_yes h a1 b1, itA_yes h a2 b2, itA_yes h a3 b3, itA_yes h a4 b4, itA_yes h a5 b5, itA_yes h a6 b6, itA_yes h a7 b7, itA_yes h a8 b8, itA_yes h x b9, itA_yes h y b10, itA_yes h z b11]

    have HT : Held w ((((w.alloc (.cells #[.int .i64 a0, .int .i64 a1, .int .i64 a2, .int .i64 a3, .int .i64 a4, .int .i64 a5, .int .i64 a6, .int .i64 a7, .int .i64 a8, .int .i64 x, .int .i64 y, .int .i64 z] 40)).alloc (.cells #[.int .i64 b0, .int .i64 b1, .int .i64 b2, .int .i64 b3, .int .i64 b4, .int .i64 b5, .int .i64 b6, .int .i64 b7, .int .i64 b8, .int .i64 b9, .int .i64 b10, .int .i64 b11] 40)).alloc (.cells #[.int .i64 0, .int .i64 0, .int .i64 0, .int .i64 0, .int .i64 0, .int .i64 0, .int .i64 0, .int .i64 0, .int .i64 0, .int .i64 0, .int .i64 0, .int .i64 0] 40)).alloc (.cells #[.int .i64 a0, .int .i64 a1, .int .i64 a2, .int .i64 a3, .int .i64 a4, .int .i64 a5, .int .i64 a6, .int .i64 a7, .int .i64 a8, .int .i64 x, .int .i64 y, .int .i64 z] 40)) [(w.heap.size + 3, (partA ps0 ys 0).flatMap vg), (w.heap.size + 2, [.int .i64 0, .int .i64 0, .int .i64 0, .int .i64 0, .int .i64 0, .int .i64 0, .int .i64 0, .int .i64 0, .int .i64 0, .int .i64 0, .int .i64 0, .int .i64 0]), (w.heap.size + 1, qs.flatMap vg), (w.heap.size, ps.flatMap vg)] := by
      have h := HT.pick (cs := [(w.heap.size + 3, [.int .i64 a0, .int .i64 a1, .int .i64 a2, .int .i64 a3, .int .i64 a4, .int .i64 a5, .int .i64 a6, .int .i64 a7, .int .i64 a8, .int .i64 x, .int .i64 y, .int .i64 z]), (w.heap.size + 2, [.int .i64 0, .int .i64 0, .int .i64 0, .int .i64 0, .int .i64 0, .int .i64 0, .int .i64 0, .int .i64 0, .int .i64 0, .int .i64 0, .int .i64 0, .int .i64 0]), (w.heap.size + 1, [.int .i64 b0, .int .i64 b1, .int .i64 b2, .int .i64 b3, .int .i64 b4, .int .i64 b5, .int .i64 b6, .int .i64 b7, .int .i64 b8, .int .i64 b9, .int .i64 b10, .int .i64 b11]), (w.heap.size, [.int .i64 a0, .int .i64 a1, .int .i64 a2, .int .i64 a3, .int .i64 a4, .int .i64 a5, .int .i64 a6, .int .i64 a7, .int .i64 a8, .int .i64 x, .int .i64 y, .int .i64 z])]) (by simp)
      rw [partA_zero, hp0, hps, hqs]
      exact h
    have HX := Lib.hid (And.intro hps (And.intro hqs (And.intro hp0 hys)))
    clear hps hqs hp0 hys
    go_enter Try.func30, Try.ntmps30
    go_wp2_with (go_at_call 57; refine (l01In_any _ _ _ _).mono ?_; rintro e w1 ⟨rfl, rfl⟩; rw [h])
    go_loopw [14] (fun i wr => ∃ k : Nat, k ≤ 4 ∧ i = .int .i64 k ∧ Held w wr [(w.heap.size + 3, (partA ps0 ys k).flatMap vg), (w.heap.size + 2, [.int .i64 0, .int .i64 0, .int .i64 0, .int .i64 0, .int .i64 0, .int .i64 0, .int .i64 0, .int .i64 0, .int .i64 0, .int .i64 0, .int .i64 0, .int .i64 0]), (w.heap.size + 1, qs.flatMap vg), (w.heap.size, ps.flatMap vg)]) (fun i _ => 4 - (intOf i).toNat)
    case atStart => exact ⟨0, Nat.zero_le _, rfl, HT⟩
    case round =>
      clear HT
      obtain ⟨k, hk, rfl, HT⟩ := hrel
      by_cases hlt : k < 4
      · have he := partA_at (xs := ps0) (ys := ys) (by omega) (k := k) (by omega)
        have hs := partA_step (xs := ps0) (ys := ys) (by omega) (k := k) (by omega)
        have hv := List.getElem?_eq_getElem (show k < ps.length by omega)
        have hq := List.getElem?_eq_getElem (show k < qs.length by omega)
        have hy : ys[k]'(by omega) = itV t (ps[k]'(by omega)) (qs[k]'(by omega)) := by simp [HX.out.2.2.2]
        rw [hy] at hs
        generalize ps[k]'(by omega) = v at hs hv
        generalize qs[k]'(by omega) = u at hs hq
        generalize ps0[k]'(by omega) = z at he
        obtain ⟨p0, p1, p2⟩ := v
        obtain ⟨q0, q1, q2⟩ := u
        have HC : ∀ W, Held w W [(w.heap.size + 2, [.int .i64 0, .int .i64 0, .int .i64 0, .int .i64 0, .int .i64 0, .int .i64 0, .int .i64 0, .int .i64 0, .int .i64 0, .int .i64 0, .int .i64 0, .int .i64 0]), (w.heap.size + 1, qs.flatMap vg), (w.heap.size, ps.flatMap vg)] → (W.cell? ⟨w.heap.size, k * 3, none⟩ = some (.int .i64 p0) ∧ W.cell? ⟨w.heap.size, k * 3 + 1, none⟩ = some (.int .i64 p1) ∧ W.cell? ⟨w.heap.size, k * 3 + 2, none⟩ = some (.int .i64 p2) ∧ W.cell? ⟨w.heap.size + 1, k * 3, none⟩ = some (.int .i64 q0) ∧ W.cell? ⟨w.heap.size + 1, k * 3 + 1, none⟩ = some (.int .i64 q1) ∧ W.cell? ⟨w.heap.size + 1, k * 3 + 2, none⟩ = some (.int .i64 q2)) := fun W h => ⟨((h.box 2).v3 hv).1, ((h.box 2).v3 hv).2.1, ((h.box 2).v3 hv).2.2, ((h.box 1).v3 hq).1, ((h.box 1).v3 hq).2.1, ((h.box 1).v3 hq).2.2⟩
        have hlt' : (k : Int) < 4 := by omega
        have hge' : (0 : Int) ≤ (k : Int) := by omega
        have HE := Lib.hid he
        have HS := Lib.hid hs
        clear hy he hs hv hq
        go_wp2_with fail
        go_region_held3 (fun w' => w'.cell? ⟨w.heap.size, k * 3, none⟩ = some (.int .i64 p0) ∧ w'.cell? ⟨w.heap.size, k * 3 + 1, none⟩ = some (.int .i64 p1) ∧ w'.cell? ⟨w.heap.size, k * 3 + 2, none⟩ = some (.int .i64 p2) ∧ w'.cell? ⟨w.heap.size + 1, k * 3, none⟩ = some (.int .i64 q0) ∧ w'.cell? ⟨w.heap.size + 1, k * 3 + 1, none⟩ = some (.int .i64 q1) ∧ w'.cell? ⟨w.heap.size + 1, k * 3 + 2, none⟩ = some (.int .i64 q2))
          (first | (with_reducible exact HC _ HT.tail) | (with_reducible exact HC _ HT.drew.tail) | (with_reducible exact HC _ (HT.tail.far3 (by omega) (by simp <;> omega) _ _ _)) | (with_reducible exact HC _ (HT.tail.far3 (by omega) (by simp <;> omega) _ _ _).drew))
          (first | (go_at_call 60; (with_reducible refine (sLerp_any _ _ _ _ _ _ _ _ _).mono ?_); rintro e w1 ⟨rfl, hb1⟩; (first | (have HT := HT.later hb1) | (have HT := HT.drew.later hb1)); obtain ⟨d0, d1, d2⟩ := (HT.box 0).v3 HE.out; obtain ⟨f0, f1, f2⟩ := (HT.box 0).v3f HE.out))
        have HP := HT.putV (by omega) (by simp <;> omega) k (itV t (p0, p1, p2) (q0, q1, q2))
        rw [HS.out] at HP
        dsimp only [itV] at HP
        have HH := Lib.hid HP
        clear HT HP HE HS HC d0 d1 d2 f0 f1 f2
        go_wp2_with fail
        go_roundw
        case rel => exact ⟨k + 1, by omega, by go_num, by first | exact HH.out | exact HH.out.drew⟩
        case measure => simp [intOf]; omega
      · have e : k = 4 := by omega
        subst e
        obtain ⟨hps, hqs, hp0, hys⟩ := HX.out
        have hz : partA ps0 ys 4 = ys := by have := partA_all (xs := ps0) (ys := ys) (by omega); rw [hleny] at this; exact this
        have HT := HT.pick (cs := [(w.heap.size + 3, (partA ps0 ys 4).flatMap vg), (w.heap.size + 2, [.int .i64 0, .int .i64 0, .int .i64 0, .int .i64 0, .int .i64 0, .int .i64 0, .int .i64 0, .int .i64 0, .int .i64 0, .int .i64 0, .int .i64 0, .int .i64 0])]) (by simp)
        rw [hz] at HT
        have HT : Held w wr [(w.heap.size + 3, [.int .i64 (lerpP (cc a0) (cc b0) t 16), .int .i64 (lerpP (cc a1) (cc b1) t 16), .int .i64 (lerpP (cc a2) (cc b2) t 16), .int .i64 (lerpP (cc a3) (cc b3) t 16), .int .i64 (lerpP (cc a4) (cc b4) t 16), .int .i64 (lerpP (cc a5) (cc b5) t 16), .int .i64 (lerpP (cc a6) (cc b6) t 16), .int .i64 (lerpP (cc a7) (cc b7) t 16), .int .i64 (lerpP (cc a8) (cc b8) t 16), .int .i64 (lerpP (cc x) (cc b9) t 16), .int .i64 (lerpP (cc y) (cc b10) t 16), .int .i64 (lerpP (cc z) (cc b11) t 16)]), (w.heap.size + 2, [.int .i64 0, .int .i64 0, .int .i64 0, .int .i64 0, .int .i64 0, .int .i64 0, .int .i64 0, .int .i64 0, .int .i64 0, .int .i64 0, .int .i64 0, .int .i64 0])] := by
          rw [hys, hps, hqs] at HT
          exact HT
        obtain ⟨u0, hu0⟩ : ∃ u, u = lerpP (cc a0) (cc b0) t 16 := ⟨_, rfl⟩
        rw [← hu0] at HT
        have HU0 := Lib.hid hu0
        clear hu0
        obtain ⟨u1, hu1⟩ : ∃ u, u = lerpP (cc a1) (cc b1) t 16 := ⟨_, rfl⟩
        rw [← hu1] at HT
        have HU1 := Lib.hid hu1
        clear hu1
        obtain ⟨u2, hu2⟩ : ∃ u, u = lerpP (cc a2) (cc b2) t 16 := ⟨_, rfl⟩
        rw [← hu2] at HT
        have HU2 := Lib.hid hu2
        clear hu2
        obtain ⟨u3, hu3⟩ : ∃ u, u = lerpP (cc a3) (cc b3) t 16 := ⟨_, rfl⟩
        rw [← hu3] at HT
        have HU3 := Lib.hid hu3
        clear hu3
        obtain ⟨u4, hu4⟩ : ∃ u, u = lerpP (cc a4) (cc b4) t 16 := ⟨_, rfl⟩
        rw [← hu4] at HT
        have HU4 := Lib.hid hu4
        clear hu4
        obtain ⟨u5, hu5⟩ : ∃ u, u = lerpP (cc a5) (cc b5) t 16 := ⟨_, rfl⟩
        rw [← hu5] at HT
        have HU5 := Lib.hid hu5
        clear hu5
        obtain ⟨u6, hu6⟩ : ∃ u, u = lerpP (cc a6) (cc b6) t 16 := ⟨_, rfl⟩
        rw [← hu6] at HT
        have HU6 := Lib.hid hu6
        clear hu6
        obtain ⟨u7, hu7⟩ : ∃ u, u = lerpP (cc a7) (cc b7) t 16 := ⟨_, rfl⟩
        rw [← hu7] at HT
        have HU7 := Lib.hid hu7
        clear hu7
        obtain ⟨u8, hu8⟩ : ∃ u, u = lerpP (cc a8) (cc b8) t 16 := ⟨_, rfl⟩
        rw [← hu8] at HT
        have HU8 := Lib.hid hu8
        clear hu8
        obtain ⟨u9, hu9⟩ : ∃ u, u = lerpP (cc x) (cc b9) t 16 := ⟨_, rfl⟩
        rw [← hu9] at HT
        have HU9 := Lib.hid hu9
        clear hu9
        obtain ⟨u10, hu10⟩ : ∃ u, u = lerpP (cc y) (cc b10) t 16 := ⟨_, rfl⟩
        rw [← hu10] at HT
        have HU10 := Lib.hid hu10
        clear hu10
        obtain ⟨u11, hu11⟩ : ∃ u, u = lerpP (cc z) (cc b11) t 16 := ⟨_, rfl⟩
        rw [← hu11] at HT
        have HU11 := Lib.hid hu11
        clear hu11
        have c0 := (HT.box 0).c 0
        have c1 := (HT.box 0).c 1
        have c2 := (HT.box 0).c 2
        have c3 := (HT.box 0).c 3
        have c4 := (HT.box 0).c 4
        have c5 := (HT.box 0).c 5
        have c6 := (HT.box 0).c 6
        have c7 := (HT.box 0).c 7
        have c8 := (HT.box 0).c 8
        have c9 := (HT.box 0).c 9
        have c10 := (HT.box 0).c 10
        have c11 := (HT.box 0).c 11
        have r0 := (HT.box 1).c 0
        have r1 := (HT.box 1).c 1
        have r2 := (HT.box 1).c 2
        have r3 := (HT.box 1).c 3
        have r4 := (HT.box 1).c 4
        have r5 := (HT.box 1).c 5
        have r6 := (HT.box 1).c 6
        have r7 := (HT.box 1).c 7
        have r8 := (HT.box 1).c 8
        have r9 := (HT.box 1).c 9
        have r10 := (HT.box 1).c 10
        have r11 := (HT.box 1).c 11
        have g0 := (HT.box 1).f 0
        have g1 := (HT.box 1).f 1
        have g2 := (HT.box 1).f 2
        have g3 := (HT.box 1).f 3
        have g4 := (HT.box 1).f 4
        have g5 := (HT.box 1).f 5
        have g6 := (HT.box 1).f 6
        have g7 := (HT.box 1).f 7
        have g8 := (HT.box 1).f 8
        have g9 := (HT.box 1).f 9
        have g10 := (HT.box 1).f 10
        have g11 := (HT.box 1).f 11
        have HW := HT.below
        clear HT
        clear hlt hk hlen hlenq hlen0 hleny HX hz hps hqs hp0 hys
        go_wp2_with fail
        exact bodyPost_ret (v := tr u0 u1 u2 u3 u4 u5 u6 u7 u8 u9 u10 u11) (by simp [results, Try.results30, go_sem, r0, r1, r2, r3, r4, r5, r6, r7, r8, r9, r10, r11]) rfl ⟨by rw [HU0.out, HU1.out, HU2.out, HU3.out, HU4.out, HU5.out, HU6.out, HU7.out, HU8.out, HU9.out, HU10.out, HU11.out], bset_far12 HW (by omega)⟩
end Go.Proofs.Ytbgpcgimmiinbaa
