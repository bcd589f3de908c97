/- Contracts of TransformPatch: the program and its model. -/
import Derived.Test.YtjflkapdnnecjaaProg
import Derived.Test.YtjflkapdnnecjaaInts
import Derived.Test.YtjflkapdnnecjaaVbox
import Derived.Test.YtjflkapdnnecjaaVec
import Derived.Test.YtjflkapdnnecjaaHeld
import Derived.Test.YtjflkapdnnecjaaArr
import Derived.Test.YtjflkapdnnecjaaTr
import Derived.Test.YtjflkapdnnecjaaMem
import Derived.Test.YtjflkapdnnecjaaFlat
import Derived.Test.YtjflkapdnnecjaaRowC
import Derived.Test.YtjflkapdnnecjaaPat
import Derived.Test.YtjflkapdnnecjaaTMat
import Derived.Test.YtjflkapdnnecjaaVDot
import Derived.Test.YtjflkapdnnecjaaVAdd
import Derived.Test.YtjflkapdnnecjaaTAw
import Derived.Test.YtjflkapdnnecjaaTApp
import Derived.Test.YtjflkapdnnecjaaTsApp
import Derived.Test.YtjflkapdnnecjaaTApA
import Derived.Test.YtjflkapdnnecjaaVecS
import Derived.Test.YtjflkapdnnecjaaT12
import Derived.Test.YtjflkapdnnecjaaTAll
import Derived.Test.YtjflkapdnnecjaaPVal
import Derived.WalkKit
import Derived.WalkSpells
import Derived.WalkLawsBesides
import Derived.Lib.Hide
import Derived.Deep.RegionHeld3
import Derived.Deep.QuietTactic
import Derived.BigQuiet
import Derived.Handy
import Derived.Deep.DeepCutAuto
namespace Go.Proofs.Ytjflkapdnnecjaa
open Go.RowKit

set_option maxHeartbeats 4000000 in
theorem transformPatch_any (A : Option Addr) (c : Nat) (xs : List V12) (a0 a1 a2 a3 a4 a5 a6 a7 a8 x y z : Int) (w : World) (hR : RowC 12 tg w w.heap.size A xs) (hl : xs.length ≤ 1099511627776) :
    Calls Try.prog 35 #[.slice A xs.length c, tr a0 a1 a2 a3 a4 a5 a6 a7 a8 x y z] w (TrOut ((xs.foldl apT (a0, a1, a2)).1) ((xs.foldl apT (a0, a1, a2)).2.1) ((xs.foldl apT (a0, a1, a2)).2.2) ((xs.foldl apT (a3, a4, a5)).1) ((xs.foldl apT (a3, a4, a5)).2.1) ((xs.foldl apT (a3, a4, a5)).2.2) ((xs.foldl apT (a6, a7, a8)).1) ((xs.foldl apT (a6, a7, a8)).2.1) ((xs.foldl apT (a6, a7, a8)).2.2) ((xs.foldl apT (x, y, z)).1) ((xs.foldl apT (x, y, z)).2.1) ((xs.foldl apT (x, y, z)).2.2) w) := by
  have HT : Held w ((w.alloc (.cells #[.int .i64 a0, .int .i64 a1, .int .i64 a2, .int .i64 a3, .int .i64 a4, .int .i64 a5, .int .i64 a6, .int .i64 a7, .int .i64 a8, .int .i64 x, .int .i64 y, .int .i64 z] 27)).alloc (.cells #[.int .i64 0, .int .i64 0, .int .i64 0, .int .i64 0, .int .i64 0, .int .i64 0, .int .i64 0, .int .i64 0, .int .i64 0, .int .i64 0, .int .i64 0, .int .i64 0] 27)) [(w.heap.size + 1, [.int .i64 0, .int .i64 0, .int .i64 0, .int .i64 0, .int .i64 0, .int .i64 0, .int .i64 0, .int .i64 0, .int .i64 0, .int .i64 0, .int .i64 0, .int .i64 0]), (w.heap.size, [.int .i64 a0, .int .i64 a1, .int .i64 a2, .int .i64 a3, .int .i64 a4, .int .i64 a5, .int .i64 a6, .int .i64 a7, .int .i64 a8, .int .i64 x, .int .i64 y, .int .i64 z])] := by
    have h := ((Held.nil w).new #[.int .i64 a0, .int .i64 a1, .int .i64 a2, .int .i64 a3, .int .i64 a4, .int .i64 a5, .int .i64 a6, .int .i64 a7, .int .i64 a8, .int .i64 x, .int .i64 y, .int .i64 z] 27).new #[.int .i64 0, .int .i64 0, .int .i64 0, .int .i64 0, .int .i64 0, .int .i64 0, .int .i64 0, .int .i64 0, .int .i64 0, .int .i64 0, .int .i64 0, .int .i64 0] 27
    simpa only [World.size_alloc] using h
  have RH : ∀ {bs : List (Nat × List Value)} (W : World), Held w W bs → RowC 12 tg W W.heap.size A xs := fun W h => (hR.below h.below).more h.size
  clear hR
  obtain ⟨ps, hps⟩ : ∃ ps : List V3, ps = [(a0, a1, a2), (a3, a4, a5), (a6, a7, a8), (x, y, z)] := ⟨_, rfl⟩
  have hlen : ps.length = 4 := by rw [hps]; rfl
  obtain ⟨ys, hys⟩ : ∃ ys, ys = ps.map (fun v => xs.foldl apT v) := ⟨_, rfl⟩
  have hlen' : ys.length = 4 := by rw [hys]; simpa using hlen
  have HT := HT.pick (cs := [(w.heap.size, [.int .i64 a0, .int .i64 a1, .int .i64 a2, .int .i64 a3, .int .i64 a4, .int .i64 a5, .int .i64 a6, .int .i64 a7, .int .i64 a8, .int .i64 x, .int .i64 y, .int .i64 z]), (w.heap.size + 1, [.int .i64 0, .int .i64 0, .int .i64 0, .int .i64 0, .int .i64 0, .int .i64 0, .int .i64 0, .int .i64 0, .int .i64 0, .int .i64 0, .int .i64 0, .int .i64 0])]) (by simp)
  have HT : Held w ((w.alloc (.cells #[.int .i64 a0, .int .i64 a1, .int .i64 a2, .int .i64 a3, .int .i64 a4, .int .i64 a5, .int .i64 a6, .int .i64 a7, .int .i64 a8, .int .i64 x, .int .i64 y, .int .i64 z] 27)).alloc (.cells #[.int .i64 0, .int .i64 0, .int .i64 0, .int .i64 0, .int .i64 0, .int .i64 0, .int .i64 0, .int .i64 0, .int .i64 0, .int .i64 0, .int .i64 0, .int .i64 0] 27)) [(w.heap.size, (partA ps ys 0).flatMap vg), (w.heap.size + 1, [.int .i64 0, .int .i64 0, .int .i64 0, .int .i64 0, .int .i64 0, .int .i64 0, .int .i64 0, .int .i64 0, .int .i64 0, .int .i64 0, .int .i64 0, .int .i64 0])] := by rw [partA_zero, hps]; exact HT
  have HX := Lib.hid hps
  have HY := Lib.hid hys
  clear hps hys
  go_enter Try.func35, Try.ntmps35
  go_wp2
  go_loopw [6] (fun i wr => ∃ k : Nat, k ≤ 4 ∧ i = .int .i64 k ∧ Held w wr [(w.heap.size, (partA ps ys k).flatMap vg), (w.heap.size + 1, [.int .i64 0, .int .i64 0, .int .i64 0, .int .i64 0, .int .i64 0, .int .i64 0, .int .i64 0, .int .i64 0, .int .i64 0, .int .i64 0, .int .i64 0, .int .i64 0])]) (fun i _ => 4 - (intOf i).toNat)
  case atStart => exact ⟨0, Nat.zero_le _, rfl, HT⟩
  case round =>
    clear HT
    obtain ⟨k, hk, rfl, HT⟩ := hrel
    by_cases hlt : k < 4
    · have he := partA_at (xs := ps) (ys := ys) (by omega) (k := k) (by omega)
      have hs := partA_step (xs := ps) (ys := ys) (by omega) (k := k) (by omega)
      have hv := List.getElem?_eq_getElem (show k < ps.length by omega)
      have hy : ys[k]'(by omega) = xs.foldl apT (ps[k]'(by omega)) := by simp [HY.out]
      rw [hy] at hs
      generalize ps[k]'(by omega) = v at he hs hv
      obtain ⟨p, q, r⟩ := v
      obtain ⟨c0, c1, c2⟩ := (HT.box 0).v3 he
      dsimp only at c0 c1 c2
      have hlt' : (k : Int) < 4 := by omega
      have hge' : (0 : Int) ≤ (k : Int) := by omega

      have HE := Lib.hid he
      have HS := Lib.hid hs
      clear hy he hs hv
      go_wp2_with fail
      refine (applyAll_any _ _ xs p q r _ (RH _ HT) hl).mono ?_
      rintro e w1 ⟨rfl, hb1⟩
      have HT := HT.later hb1
      clear c0 c1 c2
      obtain ⟨u, hu⟩ : ∃ u, u = xs.foldl apT (p, q, r) := ⟨_, rfl⟩
      have HS := Lib.hid (show (partA ps ys k).set k u = partA ps ys (k + 1) from by rw [hu]; exact HS.out)
      rw [← hu]
      clear hu hb1
      obtain ⟨d0, d1, d2⟩ := (HT.box 0).v3 HE.out
      obtain ⟨f0, f1, f2⟩ := (HT.box 0).v3f HE.out
      have HP := HT.putV (by omega) (by simp) k u
      rw [HS.out] at HP
      have HH := Lib.hid HP
      clear HT HP HE HS
      go_wp2
      go_roundw
      case rel => exact ⟨k + 1, by omega, by go_num, HH.out⟩
      case measure => simp [intOf]; omega
    · have e : k = 4 := by omega
      subst e
      have HT : Held w wr [(w.heap.size, [.int .i64 ((xs.foldl apT (a0, a1, a2)).1), .int .i64 ((xs.foldl apT (a0, a1, a2)).2.1), .int .i64 ((xs.foldl apT (a0, a1, a2)).2.2), .int .i64 ((xs.foldl apT (a3, a4, a5)).1), .int .i64 ((xs.foldl apT (a3, a4, a5)).2.1), .int .i64 ((xs.foldl apT (a3, a4, a5)).2.2), .int .i64 ((xs.foldl apT (a6, a7, a8)).1), .int .i64 ((xs.foldl apT (a6, a7, a8)).2.1), .int .i64 ((xs.foldl apT (a6, a7, a8)).2.2), .int .i64 ((xs.foldl apT (x, y, z)).1), .int .i64 ((xs.foldl apT (x, y, z)).2.1), .int .i64 ((xs.foldl apT (x, y, z)).2.2)]), (w.heap.size + 1, [.int .i64 0, .int .i64 0, .int .i64 0, .int .i64 0, .int .i64 0, .int .i64 0, .int .i64 0, .int .i64 0, .int .i64 0, .int .i64 0, .int .i64 0, .int .i64 0])] := by
        rw [HY.out, HX.out] at HT
        exact HT
      obtain ⟨u0, hu0⟩ : ∃ u, u = xs.foldl apT (a0, a1, a2) := ⟨_, rfl⟩
      rw [← hu0] at HT
      have HU0 := Lib.hid hu0
      obtain ⟨u1, hu1⟩ : ∃ u, u = xs.foldl apT (a3, a4, a5) := ⟨_, rfl⟩
      rw [← hu1] at HT
      have HU1 := Lib.hid hu1
      obtain ⟨u2, hu2⟩ : ∃ u, u = xs.foldl apT (a6, a7, a8) := ⟨_, rfl⟩
      rw [← hu2] at HT
      have HU2 := Lib.hid hu2
      obtain ⟨u3, hu3⟩ : ∃ u, u = xs.foldl apT (x, y, z) := ⟨_, rfl⟩
      rw [← hu3] at HT
      have HU3 := Lib.hid hu3
      clear hu0 hu1 hu2 hu3
      have c0 := (HT.box 0).c 0
      have c1 := (HT.box 0).c 1
      have c2 := (HT.box 0).c 2
      have c3 := (HT.box 0).c 3
      have c4 := (HT.box 0).c 4
      have c5 := (HT.box 0).c 5
      have c6 := (HT.box 0).c 6
      have c7 := (HT.box 0).c 7
      have c8 := (HT.box 0).c 8
      have c9 := (HT.box 0).c 9
      have c10 := (HT.box 0).c 10
      have c11 := (HT.box 0).c 11
      have r0 := (HT.box 1).c 0
      have r1 := (HT.box 1).c 1
      have r2 := (HT.box 1).c 2
      have r3 := (HT.box 1).c 3
      have r4 := (HT.box 1).c 4
      have r5 := (HT.box 1).c 5
      have r6 := (HT.box 1).c 6
      have r7 := (HT.box 1).c 7
      have r8 := (HT.box 1).c 8
      have r9 := (HT.box 1).c 9
      have r10 := (HT.box 1).c 10
      have r11 := (HT.box 1).c 11
      have g0 := (HT.box 1).f 0
      have g1 := (HT.box 1).f 1
      have g2 := (HT.box 1).f 2
      have g3 := (HT.box 1).f 3
      have g4 := (HT.box 1).f 4
      have g5 := (HT.box 1).f 5
      have g6 := (HT.box 1).f 6
      have g7 := (HT.box 1).f 7
      have g8 := (HT.box 1).f 8
      have g9 := (HT.box 1).f 9
      have g10 := (HT.box 1).f 10
      have g11 := (HT.box 1).f 11
      have HW := HT.below
      clear HT
      clear hlt hk hlen hlen' HX HY RH
      go_wp2_with fail
      exact bodyPost_ret (v := tr (u0.1) (u0.2.1) (u0.2.2) (u1.1) (u1.2.1) (u1.2.2) (u2.1) (u2.2.1) (u2.2.2) (u3.1) (u3.2.1) (u3.2.2)) (by simp [results, Try.results35, go_sem, r0, r1, r2, r3, r4, r5, r6, r7, r8, r9, r10, r11]) rfl ⟨by rw [HU0.out, HU1.out, HU2.out, HU3.out], bset_far12 HW (by omega)⟩

set_option maxHeartbeats 4000000 in
theorem sTransformPatch_any (A : Option Addr) (c : Nat) (xs : List V12) (a0 a1 a2 a3 a4 a5 a6 a7 a8 x y z : Int) (w : World) (hR : RowC 12 tg w w.heap.size A xs) (hl : xs.length ≤ 1099511627776) :
    Calls Try.prog 33 #[.slice A xs.length c, tr a0 a1 a2 a3 a4 a5 a6 a7 a8 x y z] w (TrOut ((xs.foldl apT (a0, a1, a2)).1) ((xs.foldl apT (a0, a1, a2)).2.1) ((xs.foldl apT (a0, a1, a2)).2.2) ((xs.foldl apT (a3, a4, a5)).1) ((xs.foldl apT (a3, a4, a5)).2.1) ((xs.foldl apT (a3, a4, a5)).2.2) ((xs.foldl apT (a6, a7, a8)).1) ((xs.foldl apT (a6, a7, a8)).2.1) ((xs.foldl apT (a6, a7, a8)).2.2) ((xs.foldl apT (x, y, z)).1) ((xs.foldl apT (x, y, z)).2.1) ((xs.foldl apT (x, y, z)).2.2) w) := by
  have HT : Held w (((w.alloc (.cells #[.int .i64 a0, .int .i64 a1, .int .i64 a2, .int .i64 a3, .int .i64 a4, .int .i64 a5, .int .i64 a6, .int .i64 a7, .int .i64 a8, .int .i64 x, .int .i64 y, .int .i64 z] 27)).alloc (.cells #[.int .i64 0, .int .i64 0, .int .i64 0, .int .i64 0, .int .i64 0, .int .i64 0, .int .i64 0, .int .i64 0, .int .i64 0, .int .i64 0, .int .i64 0, .int .i64 0] 27)).alloc (.cells #[.int .i64 a0, .int .i64 a1, .int .i64 a2, .int .i64 a3, .int .i64 a4, .int .i64 a5, .int .i64 a6, .int .i64 a7, .int .i64 a8, .int .i64 x, .int .i64 y, .int .i64 z] 27)) [(w.heap.size + 2, [.int .i64 a0, .int .i64 a1, .int .i64 a2, .int .i64 a3, .int .i64 a4, .int .i64 a5, .int .i64 a6, .int .i64 a7, .int .i64 a8, .int .i64 x, .int .i64 y, .int .i64 z]), (w.heap.size + 1, [.int .i64 0, .int .i64 0, .int .i64 0, .int .i64 0, .int .i64 0, .int .i64 0, .int .i64 0, .int .i64 0, .int .i64 0, .int .i64 0, .int .i64 0, .int .i64 0]), (w.heap.size, [.int .i64 a0, .int .i64 a1, .int .i64 a2, .int .i64 a3, .int .i64 a4, .int .i64 a5, .int .i64 a6, .int .i64 a7, .int .i64 a8, .int .i64 x, .int .i64 y, .int .i64 z])] := by
    have h := (((Held.nil w).new #[.int .i64 a0, .int .i64 a1, .int .i64 a2, .int .i64 a3, .int .i64 a4, .int .i64 a5, .int .i64 a6, .int .i64 a7, .int .i64 a8, .int .i64 x, .int .i64 y, .int .i64 z] 27).new #[.int .i64 0, .int .i64 0, .int .i64 0, .int .i64 0, .int .i64 0, .int .i64 0, .int .i64 0, .int .i64 0, .int .i64 0, .int .i64 0, .int .i64 0, .int .i64 0] 27).new #[.int .i64 a0, .int .i64 a1, .int .i64 a2, .int .i64 a3, .int .i64 a4, .int .i64 a5, .int .i64 a6, .int .i64 a7, .int .i64 a8, .int .i64 x, .int .i64 y, .int .i64 z] 27
    simpa only [World.size_alloc] using h
  have RH : ∀ {bs : List (Nat × List Value)} (W : World), Held w W bs → RowC 12 tg W W.heap.size A xs := fun W h => (hR.below h.below).more h.size
  clear hR
  obtain ⟨ps, hps⟩ : ∃ ps : List V3, ps = [(a0, a1, a2), (a3, a4, a5), (a6, a7, a8), (x, y, z)] := ⟨_, rfl⟩
  have hlen : ps.length = 4 := by rw [hps]; rfl
  obtain ⟨ys, hys⟩ : ∃ ys, ys = ps.map (fun v => xs.foldl apT v) := ⟨_, rfl⟩
  have hlen' : ys.length = 4 := by rw [hys]; simpa using hlen
  have hix := fun (v : V3) (k : Nat) => index_pat a0 a1 a2 a3 a4 a5 a6 a7 a8 x y z v k
  rw [← hps] at hix
  have HI := Lib.hid hix
  clear hix
  have HT := HT.pick (cs := [(w.heap.size + 2, [.int .i64 a0, .int .i64 a1, .int .i64 a2, .int .i64 a3, .int .i64 a4, .int .i64 a5, .int .i64 a6, .int .i64 a7, .int .i64 a8, .int .i64 x, .int .i64 y, .int .i64 z]), (w.heap.size + 1, [.int .i64 0, .int .i64 0, .int .i64 0, .int .i64 0, .int .i64 0, .int .i64 0, .int .i64 0, .int .i64 0, .int .i64 0, .int .i64 0, .int .i64 0, .int .i64 0])]) (by simp)
  have HT : Held w (((w.alloc (.cells #[.int .i64 a0, .int .i64 a1, .int .i64 a2, .int .i64 a3, .int .i64 a4, .int .i64 a5, .int .i64 a6, .int .i64 a7, .int .i64 a8, .int .i64 x, .int .i64 y, .int .i64 z] 27)).alloc (.cells #[.int .i64 0, .int .i64 0, .int .i64 0, .int .i64 0, .int .i64 0, .int .i64 0, .int .i64 0, .int .i64 0, .int .i64 0, .int .i64 0, .int .i64 0, .int .i64 0] 27)).alloc (.cells #[.int .i64 a0, .int .i64 a1, .int .i64 a2, .int .i64 a3, .int .i64 a4, .int .i64 a5, .int .i64 a6, .int .i64 a7, .int .i64 a8, .int .i64 x, .int .i64 y, .int .i64 z] 27)) [(w.heap.size + 2, (partA ps ys 0).flatMap vg), (w.heap.size + 1, [.int .i64 0, .int .i64 0, .int .i64 0, .int .i64 0, .int .i64 0, .int .i64 0, .int .i64 0, .int .i64 0, .int .i64 0, .int .i64 0, .int .i64 0, .int .i64 0])] := by rw [partA_zero, hps]; exact HT
  have HX := Lib.hid hps
  have HY := Lib.hid hys
  clear hps hys
  go_enter Try.func33, Try.ntmps33
  go_wp2
  go_loopw [11] (fun i wr => ∃ k : Nat, k ≤ 4 ∧ i = .int .i64 k ∧ Held w wr [(w.heap.size + 2, (partA ps ys k).flatMap vg), (w.heap.size + 1, [.int .i64 0, .int .i64 0, .int .i64 0, .int .i64 0, .int .i64 0, .int .i64 0, .int .i64 0, .int .i64 0, .int .i64 0, .int .i64 0, .int .i64 0, .int .i64 0])]) (fun i _ => 4 - (intOf i).toNat)
  case atStart => exact ⟨0, Nat.zero_le _, rfl, HT⟩
  case round =>
    clear HT
    obtain ⟨k, hk, rfl, HT⟩ := hrel
    by_cases hlt : k < 4
    · have he := partA_at (xs := ps) (ys := ys) (by omega) (k := k) (by omega)
      have hs := partA_step (xs := ps) (ys := ys) (by omega) (k := k) (by omega)
      have hv := List.getElem?_eq_getElem (show k < ps.length by omega)
      have hy : ys[k]'(by omega) = xs.foldl apT (ps[k]'(by omega)) := by simp [HY.out]
      rw [hy] at hs
      generalize ps[k]'(by omega) = v at he hs hv
      obtain ⟨p, q, r⟩ := v
      have hix := HI.out (p, q, r) k hv
      dsimp only at hix
      have hlt' : (k : Int) < 4 := by omega
      have hge' : (0 : Int) ≤ (k : Int) := by omega

      have HE := Lib.hid he
      have HS := Lib.hid hs
      clear hy he hs hv
      go_wp2_with fail
      refine (sApplyAll_any _ _ xs p q r _ (RH _ (HT.alloc _)) hl).mono ?_
      rintro e w1 ⟨rfl, hb1⟩
      have HT := (HT.alloc _).later hb1
      clear hix
      obtain ⟨u, hu⟩ : ∃ u, u = xs.foldl apT (p, q, r) := ⟨_, rfl⟩
      have HS := Lib.hid (show (partA ps ys k).set k u = partA ps ys (k + 1) from by rw [hu]; exact HS.out)
      rw [← hu]
      clear hu hb1
      obtain ⟨d0, d1, d2⟩ := (HT.box 0).v3 HE.out
      obtain ⟨f0, f1, f2⟩ := (HT.box 0).v3f HE.out
      have HP := HT.putV (by omega) (by simp <;> omega) k u
      rw [HS.out] at HP
      have HH := Lib.hid HP
      clear HT HP HE HS
      go_wp2
      go_roundw
      case rel => exact ⟨k + 1, by omega, by go_num, HH.out⟩
      case measure => simp [intOf]; omega
    · have e : k = 4 := by omega
      subst e
      have HT : Held w wr [(w.heap.size + 2, [.int .i64 ((xs.foldl apT (a0, a1, a2)).1), .int .i64 ((xs.foldl apT (a0, a1, a2)).2.1), .int .i64 ((xs.foldl apT (a0, a1, a2)).2.2), .int .i64 ((xs.foldl apT (a3, a4, a5)).1), .int .i64 ((xs.foldl apT (a3, a4, a5)).2.1), .int .i64 ((xs.foldl apT (a3, a4, a5)).2.2), .int .i64 ((xs.foldl apT (a6, a7, a8)).1), .int .i64 ((xs.foldl apT (a6, a7, a8)).2.1), .int .i64 ((xs.foldl apT (a6, a7, a8)).2.2), .int .i64 ((xs.foldl apT (x, y, z)).1), .int .i64 ((xs.foldl apT (x, y, z)).2.1), .int .i64 ((xs.foldl apT (x, y, z)).2.2)]), (w.heap.size + 1, [.int .i64 0, .int .i64 0, .int .i64 0, .int .i64 0, .int .i64 0, .int .i64 0, .int .i64 0, .int .i64 0, .int .i64 0, .int .i64 0, .int .i64 0, .int .i64 0])] := by
        rw [HY.out, HX.out] at HT
        exact HT
      obtain ⟨u0, hu0⟩ : ∃ u, u = xs.foldl apT (a0, a1, a2) := ⟨_, rfl⟩
      rw [← hu0] at HT
      have HU0 := Lib.hid hu0
      obtain ⟨u1, hu1⟩ : ∃ u, u = xs.foldl apT (a3, a4, a5) := ⟨_, rfl⟩
      rw [← hu1] at HT
      have HU1 := Lib.hid hu1
      obtain ⟨u2, hu2⟩ : ∃ u, u = xs.foldl apT (a6, a7, a8) := ⟨_, rfl⟩
      rw [← hu2] at HT
      have HU2 := Lib.hid hu2
      obtain ⟨u3, hu3⟩ : ∃ u, u = xs.foldl apT (x, y, z) := ⟨_, rfl⟩
      rw [← hu3] at HT
      have HU3 := Lib.hid hu3
      clear hu0 hu1 hu2 hu3
      have c0 := (HT.box 0).c 0
      have c1 := (HT.box 0).c 1
      have c2 := (HT.box 0).c 2
      have c3 := (HT.box 0).c 3
      have c4 := (HT.box 0).c 4
      have c5 := (HT.box 0).c 5
      have c6 := (HT.box 0).c 6
      have c7 := (HT.box 0).c 7
      have c8 := (HT.box 0).c 8
      have c9 := (HT.box 0).c 9
      have c10 := (HT.box 0).c 10
      have c11 := (HT.box 0).c 11
      have r0 := (HT.box 1).c 0
      have r1 := (HT.box 1).c 1
      have r2 := (HT.box 1).c 2
      have r3 := (HT.box 1).c 3
      have r4 := (HT.box 1).c 4
      have r5 := (HT.box 1).c 5
      have r6 := (HT.box 1).c 6
      have r7 := (HT.box 1).c 7
      have r8 := (HT.box 1).c 8
      have r9 := (HT.box 1).c 9
      have r10 := (HT.box 1).c 10
      have r11 := (HT.box 1).c 11
      have g0 := (HT.box 1).f 0
      have g1 := (HT.box 1).f 1
      have g2 := (HT.box 1).f 2
      have g3 := (HT.box 1).f 3
      have g4 := (HT.box 1).f 4
      have g5 := (HT.box 1).f 5
      have g6 := (HT.box 1).f 6
      have g7 := (HT.box 1).f 7
      have g8 := (HT.box 1).f 8
      have g9 := (HT.box 1).f 9
      have g10 := (HT.box 1).f 10
      have g11 := (HT.box 1).f 11
      have HW := HT.below
      clear HT
      clear hlt hk hlen hlen' HX HY RH HI
      go_wp2_with fail
      exact bodyPost_ret (v := tr (u0.1) (u0.2.1) (u0.2.2) (u1.1) (u1.2.1) (u1.2.2) (u2.1) (u2.2.1) (u2.2.2) (u3.1) (u3.2.1) (u3.2.2)) (by simp [results, Try.results33, go_sem, r0, r1, r2, r3, r4, r5, r6, r7, r8, r9, r10, r11]) rfl ⟨by rw [HU0.out, HU1.out, HU2.out, HU3.out], bset_far12 HW (by omega)⟩
end Go.Proofs.Ytjflkapdnnecjaa
