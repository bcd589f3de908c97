/- Contracts of Apply: the model. -/
import Derived.Test.YtjflkapdnnecjaaProg
import Derived.Test.YtjflkapdnnecjaaInts
import Derived.Test.YtjflkapdnnecjaaVbox
import Derived.Test.YtjflkapdnnecjaaVec
import Derived.Test.YtjflkapdnnecjaaHeld
import Derived.Test.YtjflkapdnnecjaaArr
import Derived.Test.YtjflkapdnnecjaaTr
import Derived.Test.YtjflkapdnnecjaaTMat
import Derived.Test.YtjflkapdnnecjaaVDot
import Derived.Test.YtjflkapdnnecjaaVAdd
import Derived.Test.YtjflkapdnnecjaaTAw
import Derived.WalkKit
import Derived.WalkSpells
import Derived.WalkLawsBesides
import Derived.Lib.Hide
import Derived.Deep.RegionHeld3
import Derived.Deep.QuietTactic
import Derived.BigQuiet
import Derived.Handy
import Derived.Deep.DeepCutAuto
namespace Go.Proofs.Ytjflkapdnnecjaa
open Go.RowKit

set_option maxHeartbeats 2000000 in
theorem sApply_no (a0 a1 a2 a3 a4 a5 a6 a7 a8 x y z p q r : Int) (w : World) (h : okT [a0, a1, a2, a3, a4, a5, a6, a7, a8] x y z = false) :
    Calls Try.prog 76 #[tr a0 a1 a2 a3 a4 a5 a6 a7 a8 x y z, vec (p) (q) (r)] w (VecOut (p) (q) (r) w) := by
  have HT : Held w (((w.alloc (.cells #[.int .i64 a0, .int .i64 a1, .int .i64 a2, .int .i64 a3, .int .i64 a4, .int .i64 a5, .int .i64 a6, .int .i64 a7, .int .i64 a8, .int .i64 x, .int .i64 y, .int .i64 z] 90)).alloc (.cells #[.int .i64 p, .int .i64 q, .int .i64 r] 24)).alloc (.cells #[.int .i64 0, .int .i64 0, .int .i64 0] 24)) [(w.heap.size + 2, [.int .i64 0, .int .i64 0, .int .i64 0]), (w.heap.size + 1, [.int .i64 p, .int .i64 q, .int .i64 r]), (w.heap.size, [.int .i64 a0, .int .i64 a1, .int .i64 a2, .int .i64 a3, .int .i64 a4, .int .i64 a5, .int .i64 a6, .int .i64 a7, .int .i64 a8, .int .i64 x, .int .i64 y, .int .i64 z])] := by
    have h := (((Held.nil w).new #[.int .i64 a0, .int .i64 a1, .int .i64 a2, .int .i64 a3, .int .i64 a4, .int .i64 a5, .int .i64 a6, .int .i64 a7, .int .i64 a8, .int .i64 x, .int .i64 y, .int .i64 z] 90).new #[.int .i64 p, .int .i64 q, .int .i64 r] 24).new #[.int .i64 0, .int .i64 0, .int .i64 0] 24
    simpa only [World.size_alloc] using h
  go_enter Try.func76, Try.ntmps76
  have c0 := (HT.box 2).c 0
  have c1 := (HT.box 2).c 1
  have c2 := (HT.box 2).c 2
  have c3 := (HT.box 2).c 3
  have c4 := (HT.box 2).c 4
  have c5 := (HT.box 2).c 5
  have c6 := (HT.box 2).c 6
  have c7 := (HT.box 2).c 7
  have c8 := (HT.box 2).c 8
  have c9 := (HT.box 2).c 9
  have c10 := (HT.box 2).c 10
  have c11 := (HT.box 2).c 11
  go_wp2_with fail
  refine (sIsValidTransform_any _ _ _ _ _ _ _ _ _ _ _ _ _).mono ?_
  rintro e w1 ⟨rfl, hb1⟩
  have HT := HT.later hb1
  have hs1 := hb1.size
  simp only [World.size_alloc] at hs1
  clear hb1 c0 c1 c2 c3 c4 c5 c6 c7 c8 c9 c10 c11
  rw [h]
  have d0 := (HT.box 1).c 0
  have d1 := (HT.box 1).c 1
  have d2 := (HT.box 1).c 2
  have r0 := (HT.box 0).c 0
  have r1 := (HT.box 0).c 1
  have r2 := (HT.box 0).c 2
  have g0 := (HT.box 0).f 0
  have g1 := (HT.box 0).f 1
  have g2 := (HT.box 0).f 2
  have HW := HT.below
  clear HT
  clear hs1
  go_wp2_with fail
  exact bodyPost_ret (v := vec (p) (q) (r)) (by simp [results, Try.results76, go_sem, r0, r1, r2]) rfl ⟨rfl, bset3 HW (by omega)⟩

set_option maxHeartbeats 8000000 in
theorem sApply_yesS (a0 a1 a2 a3 a4 a5 a6 a7 a8 x y z p q r : Int) (w : World) (h : okT [a0, a1, a2, a3, a4, a5, a6, a7, a8] x y z = true) :
    Calls Try.prog 76 #[tr a0 a1 a2 a3 a4 a5 a6 a7 a8 x y z, vec (p) (q) (r)] w (VecOut (cc (cc (fdivP (a0 * cc p + a1 * cc q + a2 * cc r) 16) + cc x)) (cc (cc (fdivP (a3 * cc p + a4 * cc q + a5 * cc r) 16) + cc y)) (cc (cc (fdivP (a6 * cc p + a7 * cc q + a8 * cc r) 16) + cc z)) w) := by
  have hm := okT_m h
  have m0 := okM_mem hm (n := a0) (by simp)
  have m1 := okM_mem hm (n := a1) (by simp)
  have m2 := okM_mem hm (n := a2) (by simp)
  have m3 := okM_mem hm (n := a3) (by simp)
  have m4 := okM_mem hm (n := a4) (by simp)
  have m5 := okM_mem hm (n := a5) (by simp)
  have m6 := okM_mem hm (n := a6) (by simp)
  have m7 := okM_mem hm (n := a7) (by simp)
  have m8 := okM_mem hm (n := a8) (by simp)
  have HT : Held w (((w.alloc (.cells #[.int .i64 a0, .int .i64 a1, .int .i64 a2, .int .i64 a3, .int .i64 a4, .int .i64 a5, .int .i64 a6, .int .i64 a7, .int .i64 a8, .int .i64 x, .int .i64 y, .int .i64 z] 90)).alloc (.cells #[.int .i64 p, .int .i64 q, .int .i64 r] 24)).alloc (.cells #[.int .i64 0, .int .i64 0, .int .i64 0] 24)) [(w.heap.size + 2, [.int .i64 0, .int .i64 0, .int .i64 0]), (w.heap.size + 1, [.int .i64 p, .int .i64 q, .int .i64 r]), (w.heap.size, [.int .i64 a0, .int .i64 a1, .int .i64 a2, .int .i64 a3, .int .i64 a4, .int .i64 a5, .int .i64 a6, .int .i64 a7, .int .i64 a8, .int .i64 x, .int .i64 y, .int .i64 z])] := by
    have h := (((Held.nil w).new #[.int .i64 a0, .int .i64 a1, .int .i64 a2, .int .i64 a3, .int .i64 a4, .int .i64 a5, .int .i64 a6, .int .i64 a7, .int .i64 a8, .int .i64 x, .int .i64 y, .int .i64 z] 90).new #[.int .i64 p, .int .i64 q, .int .i64 r] 24).new #[.int .i64 0, .int .i64 0, .int .i64 0] 24
    simpa only [World.size_alloc] using h
  go_enter Try.func76, Try.ntmps76
  have c0 := (HT.box 2).c 0
  have c1 := (HT.box 2).c 1
  have c2 := (HT.box 2).c 2
  have c3 := (HT.box 2).c 3
  have c4 := (HT.box 2).c 4
  have c5 := (HT.box 2).c 5
  have c6 := (HT.box 2).c 6
  have c7 := (HT.box 2).c 7
  have c8 := (HT.box 2).c 8
  have c9 := (HT.box 2).c 9
  have c10 := (HT.box 2).c 10
  have c11 := (HT.box 2).c 11
  go_wp2_with fail
  refine (sIsValidTransform_any _ _ _ _ _ _ _ _ _ _ _ _ _).mono ?_
  rintro e w1 ⟨rfl, hb1⟩
  have HT := HT.later hb1
  have hs1 := hb1.size
  simp only [World.size_alloc] at hs1
  clear hb1 c0 c1 c2 c3 c4 c5 c6 c7 c8 c9 c10 c11
  rw [h]
  have d0 := (HT.box 1).c 0
  have d1 := (HT.box 1).c 1
  have d2 := (HT.box 1).c 2
  have c0 := (HT.box 2).c 0
  have c1 := (HT.box 2).c 1
  have c2 := (HT.box 2).c 2
  have c3 := (HT.box 2).c 3
  have c4 := (HT.box 2).c 4
  have c5 := (HT.box 2).c 5
  have c6 := (HT.box 2).c 6
  have c7 := (HT.box 2).c 7
  have c8 := (HT.box 2).c 8
  have c9 := (HT.box 2).c 9
  have c10 := (HT.box 2).c 10
  have c11 := (HT.box 2).c 11
  clear c0 c1 c2 c3 c4 c5 c6 c7 c8 c9 c10 c11 hm
  go_wp2_with fail
  refine (l02V_any _ _ _ _).mono ?_
  rintro e w2 ⟨rfl, hb2⟩
  have HT := HT.later hb2
  have hs2 := hb2.size
  have hs : w.heap.size + 2 < w2.heap.size := by omega
  clear hb2 hs1 hs2 d0 d1 d2
  have HK := Lib.hid hs
  clear hs
  go_upto_region 4 with fail
  have HT := HT.new #[.int .i64 (cc p), .int .i64 (cc q), .int .i64 (cc r)] 24
  have hs := HK.out
  generalize w2.alloc _ = W2 at HT ⊢
  generalize w2.heap.size = k2 at HT hs ⊢
  clear HK
  have hk2 := (HT.box 0).lt
  have HK := Lib.hid (And.intro hs hk2)
  clear hs hk2
  go_upto_region 5 with fail
  have HT := HT.new #[.int .i64 0, .int .i64 0, .int .i64 0] 3
  obtain ⟨hs, hk2⟩ := HK.out
  generalize W2.alloc _ = W3 at HT ⊢
  generalize W2.heap.size = s at HT hk2 ⊢
  clear HK
  have HT : Held w W3 ((s, ints (part2 [0, 0, 0] [fdivP (a0 * cc p + a1 * cc q + a2 * cc r) 16, fdivP (a3 * cc p + a4 * cc q + a5 * cc r) 16, fdivP (a6 * cc p + a7 * cc q + a8 * cc r) 16] 0)) :: [(k2, [.int .i64 (cc p), .int .i64 (cc q), .int .i64 (cc r)]), (w.heap.size + 2, [.int .i64 0, .int .i64 0, .int .i64 0]), (w.heap.size + 1, [.int .i64 p, .int .i64 q, .int .i64 r]), (w.heap.size, [.int .i64 a0, .int .i64 a1, .int .i64 a2, .int .i64 a3, .int .i64 a4, .int .i64 a5, .int .i64 a6, .int .i64 a7, .int .i64 a8, .int .i64 x, .int .i64 y, .int .i64 z])]) := HT
  have HT0 := HT
  clear HT
  go_upto_region 6 with fail
  go_loopw [17] (fun i wr => ∃ k : Int, 0 ≤ k ∧ k ≤ 3 ∧ i = .int .i64 k ∧ Held w wr ((s, ints (part2 [0, 0, 0] [fdivP (a0 * cc p + a1 * cc q + a2 * cc r) 16, fdivP (a3 * cc p + a4 * cc q + a5 * cc r) 16, fdivP (a6 * cc p + a7 * cc q + a8 * cc r) 16] k.toNat)) :: [(k2, [.int .i64 (cc p), .int .i64 (cc q), .int .i64 (cc r)]), (w.heap.size + 2, [.int .i64 0, .int .i64 0, .int .i64 0]), (w.heap.size + 1, [.int .i64 p, .int .i64 q, .int .i64 r]), (w.heap.size, [.int .i64 a0, .int .i64 a1, .int .i64 a2, .int .i64 a3, .int .i64 a4, .int .i64 a5, .int .i64 a6, .int .i64 a7, .int .i64 a8, .int .i64 x, .int .i64 y, .int .i64 z])])) (fun i _ => 3 - (intOf i).toNat)
  case atStart => exact ⟨0, by omega, by omega, rfl, HT0⟩
  case round =>
    clear HT0
    obtain ⟨k, hk0, hk, rfl, HT⟩ := hrel
    have HC : ∀ W, Held w W [(k2, [.int .i64 (cc p), .int .i64 (cc q), .int .i64 (cc r)]), (w.heap.size + 2, [.int .i64 0, .int .i64 0, .int .i64 0]), (w.heap.size + 1, [.int .i64 p, .int .i64 q, .int .i64 r]), (w.heap.size, [.int .i64 a0, .int .i64 a1, .int .i64 a2, .int .i64 a3, .int .i64 a4, .int .i64 a5, .int .i64 a6, .int .i64 a7, .int .i64 a8, .int .i64 x, .int .i64 y, .int .i64 z])] → (W.cell? ⟨k2, 0, none⟩ = some (.int .i64 (cc p)) ∧ W.cell? ⟨k2, 1, none⟩ = some (.int .i64 (cc q)) ∧ W.cell? ⟨k2, 2, none⟩ = some (.int .i64 (cc r)) ∧ W.cell? ⟨w.heap.size, 0, none⟩ = some (.int .i64 a0) ∧ W.cell? ⟨w.heap.size, 1, none⟩ = some (.int .i64 a1) ∧ W.cell? ⟨w.heap.size, 2, none⟩ = some (.int .i64 a2) ∧ W.cell? ⟨w.heap.size, 3, none⟩ = some (.int .i64 a3) ∧ W.cell? ⟨w.heap.size, 4, none⟩ = some (.int .i64 a4) ∧ W.cell? ⟨w.heap.size, 5, none⟩ = some (.int .i64 a5) ∧ W.cell? ⟨w.heap.size, 6, none⟩ = some (.int .i64 a6) ∧ W.cell? ⟨w.heap.size, 7, none⟩ = some (.int .i64 a7) ∧ W.cell? ⟨w.heap.size, 8, none⟩ = some (.int .i64 a8) ∧ W.cell? ⟨w.heap.size, 9, none⟩ = some (.int .i64 x) ∧ W.cell? ⟨w.heap.size, 10, none⟩ = some (.int .i64 y) ∧ W.cell? ⟨w.heap.size, 11, none⟩ = some (.int .i64 z)) := fun W h => ⟨(h.box 0).c 0, (h.box 0).c 1, (h.box 0).c 2, (h.box 3).c 0, (h.box 3).c 1, (h.box 3).c 2, (h.box 3).c 3, (h.box 3).c 4, (h.box 3).c 5, (h.box 3).c 6, (h.box 3).c 7, (h.box 3).c 8, (h.box 3).c 9, (h.box 3).c 10, (h.box 3).c 11⟩
    have hk4 : k = 0 ∨ k = 1 ∨ k = 2 ∨ k = 3 := by omega
    clear hk hk0
    rcases hk4 with rfl | rfl | rfl | rfl
    · have HT : Held w wr ((s, [.int .i64 0, .int .i64 0, .int .i64 0]) :: [(k2, [.int .i64 (cc p), .int .i64 (cc q), .int .i64 (cc r)]), (w.heap.size + 2, [.int .i64 0, .int .i64 0, .int .i64 0]), (w.heap.size + 1, [.int .i64 p, .int .i64 q, .int .i64 r]), (w.heap.size, [.int .i64 a0, .int .i64 a1, .int .i64 a2, .int .i64 a3, .int .i64 a4, .int .i64 a5, .int .i64 a6, .int .i64 a7, .int .i64 a8, .int .i64 x, .int .i64 y, .int .i64 z])]) := HT
      have p0 := (HT.box 0).c 0
      have f0 := (HT.box 0).f 0
      have q0 := mc_w1 (m0) p
      have q1 := mc_w1 (m1) q
      have q2 := mc_w1 (m2) r
      have q3 := mc_w2 (m0) (m1) p q
      have q4 := mc_w3 (m0) (m1) (m2) p q r
      have lo := mc_lo (m0) (m1) (m2) p q r
      have hi := mc_hi (m0) (m1) (m2) p q r
      clear m0 m1 m2 m3 m4 m5 m6 m7 m8
      have z0 : IntKind.i64.wrap 0 = 0 := by rfl
      have z1 : IntKind.i64.wrap 1 = 1 := by rfl
      have z2 : IntKind.i64.wrap 2 = 2 := by rfl
      go_wp2_with fail
      go_region_held3 (fun w' => w'.cell? ⟨k2, 0, none⟩ = some (.int .i64 (cc p)) ∧ w'.cell? ⟨k2, 1, none⟩ = some (.int .i64 (cc q)) ∧ w'.cell? ⟨k2, 2, none⟩ = some (.int .i64 (cc r)) ∧ w'.cell? ⟨w.heap.size, 0, none⟩ = some (.int .i64 a0) ∧ w'.cell? ⟨w.heap.size, 1, none⟩ = some (.int .i64 a1) ∧ w'.cell? ⟨w.heap.size, 2, none⟩ = some (.int .i64 a2) ∧ w'.cell? ⟨w.heap.size, 3, none⟩ = some (.int .i64 a3) ∧ w'.cell? ⟨w.heap.size, 4, none⟩ = some (.int .i64 a4) ∧ w'.cell? ⟨w.heap.size, 5, none⟩ = some (.int .i64 a5) ∧ w'.cell? ⟨w.heap.size, 6, none⟩ = some (.int .i64 a6) ∧ w'.cell? ⟨w.heap.size, 7, none⟩ = some (.int .i64 a7) ∧ w'.cell? ⟨w.heap.size, 8, none⟩ = some (.int .i64 a8) ∧ w'.cell? ⟨w.heap.size, 9, none⟩ = some (.int .i64 x) ∧ w'.cell? ⟨w.heap.size, 10, none⟩ = some (.int .i64 y) ∧ w'.cell? ⟨w.heap.size, 11, none⟩ = some (.int .i64 z))
        (first | (with_reducible exact HC _ HT.tail) | (with_reducible exact HC _ HT.drew.tail) | (with_reducible exact HC _ (HT.tail.far (by omega) (by simp <;> omega) _)) | (with_reducible exact HC _ (HT.tail.far (by omega) (by simp <;> omega) _).drew))
        (first | (go_at_call 73; refine (sFloorDiv_any _ _ _ (by assumption) (by assumption)).mono ?_; rintro e w' ⟨rfl, rfl⟩))
      clear q0 q1 q2 q3 q4 lo hi z0 z1 z2
      go_wp2
      go_roundw
      case rel => exact ⟨1, by omega, by omega, rfl, (HT.put (by omega) (by simp <;> omega) 0 _).drew⟩
      case measure => simp [intOf]
    · have HT : Held w wr ((s, [.int .i64 ((fdivP (a0 * cc p + a1 * cc q + a2 * cc r) 16)), .int .i64 0, .int .i64 0]) :: [(k2, [.int .i64 (cc p), .int .i64 (cc q), .int .i64 (cc r)]), (w.heap.size + 2, [.int .i64 0, .int .i64 0, .int .i64 0]), (w.heap.size + 1, [.int .i64 p, .int .i64 q, .int .i64 r]), (w.heap.size, [.int .i64 a0, .int .i64 a1, .int .i64 a2, .int .i64 a3, .int .i64 a4, .int .i64 a5, .int .i64 a6, .int .i64 a7, .int .i64 a8, .int .i64 x, .int .i64 y, .int .i64 z])]) := HT
      have p1 := (HT.box 0).c 1
      have f1 := (HT.box 0).f 1
      have q0 := mc_w1 (m3) p
      have q1 := mc_w1 (m4) q
      have q2 := mc_w1 (m5) r
      have q3 := mc_w2 (m3) (m4) p q
      have q4 := mc_w3 (m3) (m4) (m5) p q r
      have lo := mc_lo (m3) (m4) (m5) p q r
      have hi := mc_hi (m3) (m4) (m5) p q r
      clear m0 m1 m2 m3 m4 m5 m6 m7 m8
      have z0 : IntKind.i64.wrap 3 = 3 := by rfl
      have z1 : IntKind.i64.wrap 4 = 4 := by rfl
      have z2 : IntKind.i64.wrap 5 = 5 := by rfl
      go_wp2_with fail
      go_region_held3 (fun w' => w'.cell? ⟨k2, 0, none⟩ = some (.int .i64 (cc p)) ∧ w'.cell? ⟨k2, 1, none⟩ = some (.int .i64 (cc q)) ∧ w'.cell? ⟨k2, 2, none⟩ = some (.int .i64 (cc r)) ∧ w'.cell? ⟨w.heap.size, 0, none⟩ = some (.int .i64 a0) ∧ w'.cell? ⟨w.heap.size, 1, none⟩ = some (.int .i64 a1) ∧ w'.cell? ⟨w.heap.size, 2, none⟩ = some (.int .i64 a2) ∧ w'.cell? ⟨w.heap.size, 3, none⟩ = some (.int .i64 a3) ∧ w'.cell? ⟨w.heap.size, 4, none⟩ = some (.int .i64 a4) ∧ w'.cell? ⟨w.heap.size, 5, none⟩ = some (.int .i64 a5) ∧ w'.cell? ⟨w.heap.size, 6, none⟩ = some (.int .i64 a6) ∧ w'.cell? ⟨w.heap.size, 7, none⟩ = some (.int .i64 a7) ∧ w'.cell? ⟨w.heap.size, 8, none⟩ = some (.int .i64 a8) ∧ w'.cell? ⟨w.heap.size, 9, none⟩ = some (.int .i64 x) ∧ w'.cell? ⟨w.heap.size, 10, none⟩ = some (.int .i64 y) ∧ w'.cell? ⟨w.heap.size, 11, none⟩ = some (.int .i64 z))
        (first | (with_reducible exact HC _ HT.tail) | (with_reducible exact HC _ HT.drew.tail) | (with_reducible exact HC _ (HT.tail.far (by omega) (by simp <;> omega) _)) | (with_reducible exact HC _ (HT.tail.far (by omega) (by simp <;> omega) _).drew))
        (first | (go_at_call 73; refine (sFloorDiv_any _ _ _ (by assumption) (by assumption)).mono ?_; rintro e w' ⟨rfl, rfl⟩))
      clear q0 q1 q2 q3 q4 lo hi z0 z1 z2
      go_wp2
      go_roundw
      case rel => exact ⟨2, by omega, by omega, rfl, (HT.put (by omega) (by simp <;> omega) 1 _).drew⟩
      case measure => simp [intOf]
    · have HT : Held w wr ((s, [.int .i64 ((fdivP (a0 * cc p + a1 * cc q + a2 * cc r) 16)), .int .i64 ((fdivP (a3 * cc p + a4 * cc q + a5 * cc r) 16)), .int .i64 0]) :: [(k2, [.int .i64 (cc p), .int .i64 (cc q), .int .i64 (cc r)]), (w.heap.size + 2, [.int .i64 0, .int .i64 0, .int .i64 0]), (w.heap.size + 1, [.int .i64 p, .int .i64 q, .int .i64 r]), (w.heap.size, [.int .i64 a0, .int .i64 a1, .int .i64 a2, .int .i64 a3, .int .i64 a4, .int .i64 a5, .int .i64 a6, .int .i64 a7, .int .i64 a8, .int .i64 x, .int .i64 y, .int .i64 z])]) := HT
      have p2 := (HT.box 0).c 2
      have f2 := (HT.box 0).f 2
      have q0 := mc_w1 (m6) p
      have q1 := mc_w1 (m7) q
      have q2 := mc_w1 (m8) r
      have q3 := mc_w2 (m6) (m7) p q
      have q4 := mc_w3 (m6) (m7) (m8) p q r
      have lo := mc_lo (m6) (m7) (m8) p q r
      have hi := mc_hi (m6) (m7) (m8) p q r
      clear m0 m1 m2 m3 m4 m5 m6 m7 m8
      have z0 : IntKind.i64.wrap 6 = 6 := by rfl
      have z1 : IntKind.i64.wrap 7 = 7 := by rfl
      have z2 : IntKind.i64.wrap 8 = 8 := by rfl
      go_wp2_with fail
      go_region_held3 (fun w' => w'.cell? ⟨k2, 0, none⟩ = some (.int .i64 (cc p)) ∧ w'.cell? ⟨k2, 1, none⟩ = some (.int .i64 (cc q)) ∧ w'.cell? ⟨k2, 2, none⟩ = some (.int .i64 (cc r)) ∧ w'.cell? ⟨w.heap.size, 0, none⟩ = some (.int .i64 a0) ∧ w'.cell? ⟨w.heap.size, 1, none⟩ = some (.int .i64 a1) ∧ w'.cell? ⟨w.heap.size, 2, none⟩ = some (.int .i64 a2) ∧ w'.cell? ⟨w.heap.size, 3, none⟩ = some (.int .i64 a3) ∧ w'.cell? ⟨w.heap.size, 4, none⟩ = some (.int .i64 a4) ∧ w'.cell? ⟨w.heap.size, 5, none⟩ = some (.int .i64 a5) ∧ w'.cell? ⟨w.heap.size, 6, none⟩ = some (.int .i64 a6) ∧ w'.cell? ⟨w.heap.size, 7, none⟩ = some (.int .i64 a7) ∧ w'.cell? ⟨w.heap.size, 8, none⟩ = some (.int .i64 a8) ∧ w'.cell? ⟨w.heap.size, 9, none⟩ = some (.int .i64 x) ∧ w'.cell? ⟨w.heap.size, 10, none⟩ = some (.int .i64 y) ∧ w'.cell? ⟨w.heap.size, 11, none⟩ = some (.int .i64 z))
        (first | (with_reducible exact HC _ HT.tail) | (with_reducible exact HC _ HT.drew.tail) | (with_reducible exact HC _ (HT.tail.far (by omega) (by simp <;> omega) _)) | (with_reducible exact HC _ (HT.tail.far (by omega) (by simp <;> omega) _).drew))
        (first | (go_at_call 73; refine (sFloorDiv_any _ _ _ (by assumption) (by assumption)).mono ?_; rintro e w' ⟨rfl, rfl⟩))
      clear q0 q1 q2 q3 q4 lo hi z0 z1 z2
      go_wp2
      go_roundw
      case rel => exact ⟨3, by omega, by omega, rfl, (HT.put (by omega) (by simp <;> omega) 2 _).drew⟩
      case measure => simp [intOf]
    · have HT := Held.pick (cs := [(w.heap.size + 2, [.int .i64 0, .int .i64 0, .int .i64 0]), (s, [.int .i64 ((fdivP (a0 * cc p + a1 * cc q + a2 * cc r) 16)), .int .i64 ((fdivP (a3 * cc p + a4 * cc q + a5 * cc r) 16)), .int .i64 ((fdivP (a6 * cc p + a7 * cc q + a8 * cc r) 16))]), (w.heap.size, [.int .i64 a0, .int .i64 a1, .int .i64 a2, .int .i64 a3, .int .i64 a4, .int .i64 a5, .int .i64 a6, .int .i64 a7, .int .i64 a8, .int .i64 x, .int .i64 y, .int .i64 z])]) (show Held w wr ((s, [.int .i64 ((fdivP (a0 * cc p + a1 * cc q + a2 * cc r) 16)), .int .i64 ((fdivP (a3 * cc p + a4 * cc q + a5 * cc r) 16)), .int .i64 ((fdivP (a6 * cc p + a7 * cc q + a8 * cc r) 16))]) :: [(k2, [.int .i64 (cc p), .int .i64 (cc q), .int .i64 (cc r)]), (w.heap.size + 2, [.int .i64 0, .int .i64 0, .int .i64 0]), (w.heap.size + 1, [.int .i64 p, .int .i64 q, .int .i64 r]), (w.heap.size, [.int .i64 a0, .int .i64 a1, .int .i64 a2, .int .i64 a3, .int .i64 a4, .int .i64 a5, .int .i64 a6, .int .i64 a7, .int .i64 a8, .int .i64 x, .int .i64 y, .int .i64 z])]) from HT) (by simp)
      clear HC m0 m1 m2 m3 m4 m5 m6 m7 m8
      have HC : ∀ W, Held w W [(s, [.int .i64 ((fdivP (a0 * cc p + a1 * cc q + a2 * cc r) 16)), .int .i64 ((fdivP (a3 * cc p + a4 * cc q + a5 * cc r) 16)), .int .i64 ((fdivP (a6 * cc p + a7 * cc q + a8 * cc r) 16))]), (w.heap.size, [.int .i64 a0, .int .i64 a1, .int .i64 a2, .int .i64 a3, .int .i64 a4, .int .i64 a5, .int .i64 a6, .int .i64 a7, .int .i64 a8, .int .i64 x, .int .i64 y, .int .i64 z])] → (W.cell? ⟨s, 0, none⟩ = some (.int .i64 ((fdivP (a0 * cc p + a1 * cc q + a2 * cc r) 16))) ∧ W.cell? ⟨s, 1, none⟩ = some (.int .i64 ((fdivP (a3 * cc p + a4 * cc q + a5 * cc r) 16))) ∧ W.cell? ⟨s, 2, none⟩ = some (.int .i64 ((fdivP (a6 * cc p + a7 * cc q + a8 * cc r) 16))) ∧ W.cell? ⟨w.heap.size, 0, none⟩ = some (.int .i64 a0) ∧ W.cell? ⟨w.heap.size, 1, none⟩ = some (.int .i64 a1) ∧ W.cell? ⟨w.heap.size, 2, none⟩ = some (.int .i64 a2) ∧ W.cell? ⟨w.heap.size, 3, none⟩ = some (.int .i64 a3) ∧ W.cell? ⟨w.heap.size, 4, none⟩ = some (.int .i64 a4) ∧ W.cell? ⟨w.heap.size, 5, none⟩ = some (.int .i64 a5) ∧ W.cell? ⟨w.heap.size, 6, none⟩ = some (.int .i64 a6) ∧ W.cell? ⟨w.heap.size, 7, none⟩ = some (.int .i64 a7) ∧ W.cell? ⟨w.heap.size, 8, none⟩ = some (.int .i64 a8) ∧ W.cell? ⟨w.heap.size, 9, none⟩ = some (.int .i64 x) ∧ W.cell? ⟨w.heap.size, 10, none⟩ = some (.int .i64 y) ∧ W.cell? ⟨w.heap.size, 11, none⟩ = some (.int .i64 z)) := fun W h => ⟨(h.box 0).c 0, (h.box 0).c 1, (h.box 0).c 2, (h.box 1).c 0, (h.box 1).c 1, (h.box 1).c 2, (h.box 1).c 3, (h.box 1).c 4, (h.box 1).c 5, (h.box 1).c 6, (h.box 1).c 7, (h.box 1).c 8, (h.box 1).c 9, (h.box 1).c 10, (h.box 1).c 11⟩
      go_wp2_with fail
      go_region_held3 (fun w' => w'.cell? ⟨s, 0, none⟩ = some (.int .i64 ((fdivP (a0 * cc p + a1 * cc q + a2 * cc r) 16))) ∧ w'.cell? ⟨s, 1, none⟩ = some (.int .i64 ((fdivP (a3 * cc p + a4 * cc q + a5 * cc r) 16))) ∧ w'.cell? ⟨s, 2, none⟩ = some (.int .i64 ((fdivP (a6 * cc p + a7 * cc q + a8 * cc r) 16))) ∧ w'.cell? ⟨w.heap.size, 0, none⟩ = some (.int .i64 a0) ∧ w'.cell? ⟨w.heap.size, 1, none⟩ = some (.int .i64 a1) ∧ w'.cell? ⟨w.heap.size, 2, none⟩ = some (.int .i64 a2) ∧ w'.cell? ⟨w.heap.size, 3, none⟩ = some (.int .i64 a3) ∧ w'.cell? ⟨w.heap.size, 4, none⟩ = some (.int .i64 a4) ∧ w'.cell? ⟨w.heap.size, 5, none⟩ = some (.int .i64 a5) ∧ w'.cell? ⟨w.heap.size, 6, none⟩ = some (.int .i64 a6) ∧ w'.cell? ⟨w.heap.size, 7, none⟩ = some (.int .i64 a7) ∧ w'.cell? ⟨w.heap.size, 8, none⟩ = some (.int .i64 a8) ∧ w'.cell? ⟨w.heap.size, 9, none⟩ = some (.int .i64 x) ∧ w'.cell? ⟨w.heap.size, 10, none⟩ = some (.int .i64 y) ∧ w'.cell? ⟨w.heap.size, 11, none⟩ = some (.int .i64 z))
        (first | (with_reducible exact HC _ HT.tail) | (with_reducible exact HC _ HT.drew.tail) | (with_reducible exact HC _ (HT.tail.far3 (by omega) (by simp <;> omega) _ _ _)) | (with_reducible exact HC _ (HT.tail.far3 (by omega) (by simp <;> omega) _ _ _).drew))
        (first | (go_at_call 87; refine (sAdd_any _ _ _ _ _ _ _).mono ?_; rintro e w1 ⟨rfl, hb1⟩; (first | (have HT := HT.later hb1) | (have HT := HT.drew.later hb1)); have r0 := (HT.box 0).c 0; have g0 := (HT.box 0).f 0; have r1 := (HT.box 0).c 1; have g1 := (HT.box 0).f 1; have r2 := (HT.box 0).c 2; have g2 := (HT.box 0).f 2; have HW := HT.below))
      go_wp2
      exact bodyPost_ret (v := vec (cc (cc (fdivP (a0 * cc p + a1 * cc q + a2 * cc r) 16) + cc x)) (cc (cc (fdivP (a3 * cc p + a4 * cc q + a5 * cc r) 16) + cc y)) (cc (cc (fdivP (a6 * cc p + a7 * cc q + a8 * cc r) 16) + cc z))) (by simp [results, Try.results76, go_sem, r0, r1, r2]) rfl ⟨rfl, bset3 HW (by omega)⟩

set_option maxHeartbeats 2000000 in
theorem sApply_yes (a0 a1 a2 a3 a4 a5 a6 a7 a8 x y z p q r : Int) (w : World) (h : okT [a0, a1, a2, a3, a4, a5, a6, a7, a8] x y z = true) :
    Calls Try.prog 76 #[tr a0 a1 a2 a3 a4 a5 a6 a7 a8 x y z, vec (p) (q) (r)] w (VecOut (apP a0 a1 a2 p q r x) (apP a3 a4 a5 p q r y) (apP a6 a7 a8 p q r z) w) := by
  have hm := okT_m h
  have m0 := okM_mem hm (n := a0) (by simp)
  have m1 := okM_mem hm (n := a1) (by simp)
  have m2 := okM_mem hm (n := a2) (by simp)
  have m3 := okM_mem hm (n := a3) (by simp)
  have m4 := okM_mem hm (n := a4) (by simp)
  have m5 := okM_mem hm (n := a5) (by simp)
  have m6 := okM_mem hm (n := a6) (by simp)
  have m7 := okM_mem hm (n := a7) (by simp)
  have m8 := okM_mem hm (n := a8) (by simp)
  have e0 := rowS_eq m0 m1 m2 p q r
  have e1 := rowS_eq m3 m4 m5 p q r
  have e2 := rowS_eq m6 m7 m8 p q r
  unfold rowS at e0 e1 e2
  unfold apP
  rw [← e0, ← e1, ← e2]
  exact sApply_yesS a0 a1 a2 a3 a4 a5 a6 a7 a8 x y z p q r w h
end Go.Proofs.Ytjflkapdnnecjaa
