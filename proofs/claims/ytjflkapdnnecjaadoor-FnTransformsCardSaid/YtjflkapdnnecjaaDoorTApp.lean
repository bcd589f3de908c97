/- Contracts of Apply: the program. -/
import Derived.Test.YtjflkapdnnecjaaDoorProg
import Derived.Test.YtjflkapdnnecjaaDoorInts
import Derived.Test.YtjflkapdnnecjaaDoorVbox
import Derived.Test.YtjflkapdnnecjaaDoorVec
import Derived.Test.YtjflkapdnnecjaaDoorHeld
import Derived.Test.YtjflkapdnnecjaaDoorArr
import Derived.Test.YtjflkapdnnecjaaDoorTr
import Derived.Test.YtjflkapdnnecjaaDoorTMat
import Derived.Test.YtjflkapdnnecjaaDoorVDot
import Derived.Test.YtjflkapdnnecjaaDoorVAdd
import Derived.Test.YtjflkapdnnecjaaDoorTAw
import Derived.WalkKit
import Derived.WalkSpells
import Derived.WalkLawsBesides
import Derived.Lib.Hide
import Derived.Deep.RegionHeld3
import Derived.Deep.QuietTactic
import Derived.BigQuiet
import Derived.Handy
import Derived.Deep.DeepCutAuto
namespace Go.Proofs.YtjflkapdnnecjaaDoor
open Go.RowKit
theorem Mbox.put3 {w : World} {k : Nat} {p q r : Value} (h : Mbox w k [p, q, r]) (a b c : Value) : Mbox (((w.setCell ⟨k, 0, none⟩ a).setCell ⟨k, 1, none⟩ b).setCell ⟨k, 2, none⟩ c) k [a, b, c] :=
  ((h.put 0 a).put 1 b).put 2 c

set_option maxHeartbeats 2000000 in
theorem apply_no (a0 a1 a2 a3 a4 a5 a6 a7 a8 x y z p q r : Int) (w : World) (h : okT [a0, a1, a2, a3, a4, a5, a6, a7, a8] x y z = false) :
    Calls Tryd.prog 16 #[tr a0 a1 a2 a3 a4 a5 a6 a7 a8 x y z, vec (p) (q) (r)] w (VecOut (p) (q) (r) w) := by
  have HT : Held w (((w.alloc (.cells #[.int .i64 a0, .int .i64 a1, .int .i64 a2, .int .i64 a3, .int .i64 a4, .int .i64 a5, .int .i64 a6, .int .i64 a7, .int .i64 a8, .int .i64 x, .int .i64 y, .int .i64 z] 26)).alloc (.cells #[.int .i64 p, .int .i64 q, .int .i64 r] 24)).alloc (.cells #[.int .i64 0, .int .i64 0, .int .i64 0] 24)) [(w.heap.size + 2, [.int .i64 0, .int .i64 0, .int .i64 0]), (w.heap.size + 1, [.int .i64 p, .int .i64 q, .int .i64 r]), (w.heap.size, [.int .i64 a0, .int .i64 a1, .int .i64 a2, .int .i64 a3, .int .i64 a4, .int .i64 a5, .int .i64 a6, .int .i64 a7, .int .i64 a8, .int .i64 x, .int .i64 y, .int .i64 z])] := by
    have h := (((Held.nil w).new #[.int .i64 a0, .int .i64 a1, .int .i64 a2, .int .i64 a3, .int .i64 a4, .int .i64 a5, .int .i64 a6, .int .i64 a7, .int .i64 a8, .int .i64 x, .int .i64 y, .int .i64 z] 26).new #[.int .i64 p, .int .i64 q, .int .i64 r] 24).new #[.int .i64 0, .int .i64 0, .int .i64 0] 24
    simpa only [World.size_alloc] using h
  go_enter Tryd.func16, Tryd.ntmps16
  have c0 := (HT.box 2).c 0
  have c1 := (HT.box 2).c 1
  have c2 := (HT.box 2).c 2
  have c3 := (HT.box 2).c 3
  have c4 := (HT.box 2).c 4
  have c5 := (HT.box 2).c 5
  have c6 := (HT.box 2).c 6
  have c7 := (HT.box 2).c 7
  have c8 := (HT.box 2).c 8
  have c9 := (HT.box 2).c 9
  have c10 := (HT.box 2).c 10
  have c11 := (HT.box 2).c 11
  go_wp2_with fail
  refine (isValidTransform_any _ _ _ _ _ _ _ _ _ _ _ _ _).mono ?_
  rintro e w1 ⟨rfl, hb1⟩
  have HT := HT.later hb1
  have hs1 := hb1.size
  simp only [World.size_alloc] at hs1
  clear hb1 c0 c1 c2 c3 c4 c5 c6 c7 c8 c9 c10 c11
  rw [h]
  have d0 := (HT.box 1).c 0
  have d1 := (HT.box 1).c 1
  have d2 := (HT.box 1).c 2
  have r0 := (HT.box 0).c 0
  have r1 := (HT.box 0).c 1
  have r2 := (HT.box 0).c 2
  have g0 := (HT.box 0).f 0
  have g1 := (HT.box 0).f 1
  have g2 := (HT.box 0).f 2
  have HW := HT.below
  clear HT
  clear hs1
  go_wp2_with fail
  exact bodyPost_ret (v := vec (p) (q) (r)) (by simp [results, Tryd.results16, go_sem, r0, r1, r2]) rfl ⟨rfl, bset3 HW (by omega)⟩

set_option maxHeartbeats 8000000 in
theorem apply_yes (a0 a1 a2 a3 a4 a5 a6 a7 a8 x y z p q r : Int) (w : World) (h : okT [a0, a1, a2, a3, a4, a5, a6, a7, a8] x y z = true) :
    Calls Tryd.prog 16 #[tr a0 a1 a2 a3 a4 a5 a6 a7 a8 x y z, vec (p) (q) (r)] w (VecOut (apP a0 a1 a2 p q r x) (apP a3 a4 a5 p q r y) (apP a6 a7 a8 p q r z) w) := by
  have HT : Held w (((w.alloc (.cells #[.int .i64 a0, .int .i64 a1, .int .i64 a2, .int .i64 a3, .int .i64 a4, .int .i64 a5, .int .i64 a6, .int .i64 a7, .int .i64 a8, .int .i64 x, .int .i64 y, .int .i64 z] 26)).alloc (.cells #[.int .i64 p, .int .i64 q, .int .i64 r] 24)).alloc (.cells #[.int .i64 0, .int .i64 0, .int .i64 0] 24)) [(w.heap.size + 2, [.int .i64 0, .int .i64 0, .int .i64 0]), (w.heap.size + 1, [.int .i64 p, .int .i64 q, .int .i64 r]), (w.heap.size, [.int .i64 a0, .int .i64 a1, .int .i64 a2, .int .i64 a3, .int .i64 a4, .int .i64 a5, .int .i64 a6, .int .i64 a7, .int .i64 a8, .int .i64 x, .int .i64 y, .int .i64 z])] := by
    have h := (((Held.nil w).new #[.int .i64 a0, .int .i64 a1, .int .i64 a2, .int .i64 a3, .int .i64 a4, .int .i64 a5, .int .i64 a6, .int .i64 a7, .int .i64 a8, .int .i64 x, .int .i64 y, .int .i64 z] 26).new #[.int .i64 p, .int .i64 q, .int .i64 r] 24).new #[.int .i64 0, .int .i64 0, .int .i64 0] 24
    simpa only [World.size_alloc] using h
  go_enter Tryd.func16, Tryd.ntmps16
  have c0 := (HT.box 2).c 0
  have c1 := (HT.box 2).c 1
  have c2 := (HT.box 2).c 2
  have c3 := (HT.box 2).c 3
  have c4 := (HT.box 2).c 4
  have c5 := (HT.box 2).c 5
  have c6 := (HT.box 2).c 6
  have c7 := (HT.box 2).c 7
  have c8 := (HT.box 2).c 8
  have c9 := (HT.box 2).c 9
  have c10 := (HT.box 2).c 10
  have c11 := (HT.box 2).c 11
  go_wp2_with fail
  refine (isValidTransform_any _ _ _ _ _ _ _ _ _ _ _ _ _).mono ?_
  rintro e w1 ⟨rfl, hb1⟩
  have HT := HT.later hb1
  have hs1 := hb1.size
  simp only [World.size_alloc] at hs1
  clear hb1 c0 c1 c2 c3 c4 c5 c6 c7 c8 c9 c10 c11
  rw [h]
  have c0 := (HT.box 2).c 0
  have c1 := (HT.box 2).c 1
  have c2 := (HT.box 2).c 2
  have c3 := (HT.box 2).c 3
  have c4 := (HT.box 2).c 4
  have c5 := (HT.box 2).c 5
  have c6 := (HT.box 2).c 6
  have c7 := (HT.box 2).c 7
  have c8 := (HT.box 2).c 8
  have c9 := (HT.box 2).c 9
  have c10 := (HT.box 2).c 10
  have c11 := (HT.box 2).c 11
  have HK1 := Lib.hid hs1
  clear hs1
  go_upto_region 4 with fail
  have HT := HT.new #[.int .i64 a0, .int .i64 a1, .int .i64 a2, .int .i64 a3, .int .i64 a4, .int .i64 a5, .int .i64 a6, .int .i64 a7, .int .i64 a8] 22
  clear c0 c1 c2 c3 c4 c5 c6 c7 c8 c9 c10 c11
  have hs1 := HK1.out
  generalize w1.alloc _ = W1 at HT ⊢
  generalize w1.heap.size = k1 at HT hs1 ⊢
  clear HK1
  have HC : ∀ W, Held w W [(k1, [.int .i64 a0, .int .i64 a1, .int .i64 a2, .int .i64 a3, .int .i64 a4, .int .i64 a5, .int .i64 a6, .int .i64 a7, .int .i64 a8]), (w.heap.size + 2, [.int .i64 0, .int .i64 0, .int .i64 0]), (w.heap.size + 1, [.int .i64 p, .int .i64 q, .int .i64 r]), (w.heap.size, [.int .i64 a0, .int .i64 a1, .int .i64 a2, .int .i64 a3, .int .i64 a4, .int .i64 a5, .int .i64 a6, .int .i64 a7, .int .i64 a8, .int .i64 x, .int .i64 y, .int .i64 z])] → (W.cell? ⟨k1, 0, none⟩ = some (.int .i64 a0) ∧ W.cell? ⟨k1, 1, none⟩ = some (.int .i64 a1) ∧ W.cell? ⟨k1, 2, none⟩ = some (.int .i64 a2) ∧ W.cell? ⟨k1, 3, none⟩ = some (.int .i64 a3) ∧ W.cell? ⟨k1, 4, none⟩ = some (.int .i64 a4) ∧ W.cell? ⟨k1, 5, none⟩ = some (.int .i64 a5) ∧ W.cell? ⟨k1, 6, none⟩ = some (.int .i64 a6) ∧ W.cell? ⟨k1, 7, none⟩ = some (.int .i64 a7) ∧ W.cell? ⟨k1, 8, none⟩ = some (.int .i64 a8) ∧ W.cell? ⟨w.heap.size + 1, 0, none⟩ = some (.int .i64 p) ∧ W.cell? ⟨w.heap.size + 1, 1, none⟩ = some (.int .i64 q) ∧ W.cell? ⟨w.heap.size + 1, 2, none⟩ = some (.int .i64 r)) := fun W h => ⟨(h.box 0).c 0, (h.box 0).c 1, (h.box 0).c 2, (h.box 0).c 3, (h.box 0).c 4, (h.box 0).c 5, (h.box 0).c 6, (h.box 0).c 7, (h.box 0).c 8, (h.box 2).c 0, (h.box 2).c 1, (h.box 2).c 2⟩
  have hz0 := (HT.box 0).lt
  have hz1 := (HT.box 1).lt
  have hz2 := (HT.box 2).lt
  have hz3 := (HT.box 3).lt
  go_cut [6] (fun s wx => ∃ g : Nat, s = .pointer (some ⟨g, 0, none⟩) ∧ w.heap.size + 2 < g ∧ Mbox wx g [.int .i64 (rowD a0 a1 a2 p q r), .int .i64 (rowD a3 a4 a5 p q r), .int .i64 (rowD a6 a7 a8 p q r)] ∧ Held w wx [(w.heap.size + 2, [.int .i64 0, .int .i64 0, .int .i64 0]), (w.heap.size, [.int .i64 a0, .int .i64 a1, .int .i64 a2, .int .i64 a3, .int .i64 a4, .int .i64 a5, .int .i64 a6, .int .i64 a7, .int .i64 a8, .int .i64 x, .int .i64 y, .int .i64 z])])
  case first =>
    go_region_held3 (fun w' => w'.cell? ⟨k1, 0, none⟩ = some (.int .i64 a0) ∧ w'.cell? ⟨k1, 1, none⟩ = some (.int .i64 a1) ∧ w'.cell? ⟨k1, 2, none⟩ = some (.int .i64 a2) ∧ w'.cell? ⟨k1, 3, none⟩ = some (.int .i64 a3) ∧ w'.cell? ⟨k1, 4, none⟩ = some (.int .i64 a4) ∧ w'.cell? ⟨k1, 5, none⟩ = some (.int .i64 a5) ∧ w'.cell? ⟨k1, 6, none⟩ = some (.int .i64 a6) ∧ w'.cell? ⟨k1, 7, none⟩ = some (.int .i64 a7) ∧ w'.cell? ⟨k1, 8, none⟩ = some (.int .i64 a8) ∧ w'.cell? ⟨w.heap.size + 1, 0, none⟩ = some (.int .i64 p) ∧ w'.cell? ⟨w.heap.size + 1, 1, none⟩ = some (.int .i64 q) ∧ w'.cell? ⟨w.heap.size + 1, 2, none⟩ = some (.int .i64 r))
      (first | (with_reducible exact HC _ HT) | (with_reducible exact HC _ HT.drew) | (with_reducible exact HC _ (HT.alloc _)) | (with_reducible exact HC _ (HT.alloc _).drew) | (with_reducible exact HC _ (HT.far3 (by omega) (by simp <;> omega) _ _ _)))
      (first | (go_at_call 46; refine (dotR_any _ _ _ _ _ _ _).mono ?_; rintro e w1 ⟨rfl, hb1⟩; (first | (have HT := HT.later hb1) | (have HT := HT.drew.later hb1) | (have HT := (HT.alloc _).later hb1) | (have HT := (HT.alloc _).drew.later hb1)); have hz0 := (HT.box 0).lt; have hz1 := (HT.box 1).lt; have hz2 := (HT.box 2).lt; have hz3 := (HT.box 3).lt; (first | (have HG := (Mbox.new3' _ (.int .i64 0) (.int .i64 0) (.int .i64 0) 24).later hb1) | (have HG := (Mbox.new3' _ (.int .i64 0) (.int .i64 0) (.int .i64 0) 24).drew.later hb1) | (have HG := HG.later hb1) | skip); (try simp only [World.size_alloc] at HG); (try (have hg0 := HG.c 0; have gg0 := HG.f 0; have hg1 := HG.c 1; have gg1 := HG.f 1; have hg2 := HG.c 2; have gg2 := HG.f 2))))
    all_goals (go_wp2_with fail; go_meet)
    all_goals (first | exact ⟨_, rfl, by omega, Mbox.new3' _ _ _ _ _, (HT.alloc _).pick (by simp)⟩ | exact ⟨_, rfl, by omega, HG.put3 _ _ _, (HT.far3 (by omega) (by simp <;> omega) _ _ _).pick (by simp)⟩)
  case rest =>
    clear hz0 hz1 hz2 hz3 HC HT
    obtain ⟨g, rfl, hg, HV, HT⟩ := hcut
    have HT := (HT.cons HV).pick (cs := [(w.heap.size + 2, [.int .i64 0, .int .i64 0, .int .i64 0]), (g, [.int .i64 (rowD a0 a1 a2 p q r), .int .i64 (rowD a3 a4 a5 p q r), .int .i64 (rowD a6 a7 a8 p q r)]), (w.heap.size, [.int .i64 a0, .int .i64 a1, .int .i64 a2, .int .i64 a3, .int .i64 a4, .int .i64 a5, .int .i64 a6, .int .i64 a7, .int .i64 a8, .int .i64 x, .int .i64 y, .int .i64 z])]) (by simp)
    clear HV
    have HC : ∀ W, Held w W [(g, [.int .i64 (rowD a0 a1 a2 p q r), .int .i64 (rowD a3 a4 a5 p q r), .int .i64 (rowD a6 a7 a8 p q r)]), (w.heap.size, [.int .i64 a0, .int .i64 a1, .int .i64 a2, .int .i64 a3, .int .i64 a4, .int .i64 a5, .int .i64 a6, .int .i64 a7, .int .i64 a8, .int .i64 x, .int .i64 y, .int .i64 z])] → (W.cell? ⟨g, 0, none⟩ = some (.int .i64 (rowD a0 a1 a2 p q r)) ∧ W.cell? ⟨g, 1, none⟩ = some (.int .i64 (rowD a3 a4 a5 p q r)) ∧ W.cell? ⟨g, 2, none⟩ = some (.int .i64 (rowD a6 a7 a8 p q r)) ∧ W.cell? ⟨w.heap.size, 0, none⟩ = some (.int .i64 a0) ∧ W.cell? ⟨w.heap.size, 1, none⟩ = some (.int .i64 a1) ∧ W.cell? ⟨w.heap.size, 2, none⟩ = some (.int .i64 a2) ∧ W.cell? ⟨w.heap.size, 3, none⟩ = some (.int .i64 a3) ∧ W.cell? ⟨w.heap.size, 4, none⟩ = some (.int .i64 a4) ∧ W.cell? ⟨w.heap.size, 5, none⟩ = some (.int .i64 a5) ∧ W.cell? ⟨w.heap.size, 6, none⟩ = some (.int .i64 a6) ∧ W.cell? ⟨w.heap.size, 7, none⟩ = some (.int .i64 a7) ∧ W.cell? ⟨w.heap.size, 8, none⟩ = some (.int .i64 a8) ∧ W.cell? ⟨w.heap.size, 9, none⟩ = some (.int .i64 x) ∧ W.cell? ⟨w.heap.size, 10, none⟩ = some (.int .i64 y) ∧ W.cell? ⟨w.heap.size, 11, none⟩ = some (.int .i64 z)) := fun W h => ⟨(h.box 0).c 0, (h.box 0).c 1, (h.box 0).c 2, (h.box 1).c 0, (h.box 1).c 1, (h.box 1).c 2, (h.box 1).c 3, (h.box 1).c 4, (h.box 1).c 5, (h.box 1).c 6, (h.box 1).c 7, (h.box 1).c 8, (h.box 1).c 9, (h.box 1).c 10, (h.box 1).c 11⟩
    go_wp2_with fail
    go_region_held3 (fun w' => w'.cell? ⟨g, 0, none⟩ = some (.int .i64 (rowD a0 a1 a2 p q r)) ∧ w'.cell? ⟨g, 1, none⟩ = some (.int .i64 (rowD a3 a4 a5 p q r)) ∧ w'.cell? ⟨g, 2, none⟩ = some (.int .i64 (rowD a6 a7 a8 p q r)) ∧ w'.cell? ⟨w.heap.size, 0, none⟩ = some (.int .i64 a0) ∧ w'.cell? ⟨w.heap.size, 1, none⟩ = some (.int .i64 a1) ∧ w'.cell? ⟨w.heap.size, 2, none⟩ = some (.int .i64 a2) ∧ w'.cell? ⟨w.heap.size, 3, none⟩ = some (.int .i64 a3) ∧ w'.cell? ⟨w.heap.size, 4, none⟩ = some (.int .i64 a4) ∧ w'.cell? ⟨w.heap.size, 5, none⟩ = some (.int .i64 a5) ∧ w'.cell? ⟨w.heap.size, 6, none⟩ = some (.int .i64 a6) ∧ w'.cell? ⟨w.heap.size, 7, none⟩ = some (.int .i64 a7) ∧ w'.cell? ⟨w.heap.size, 8, none⟩ = some (.int .i64 a8) ∧ w'.cell? ⟨w.heap.size, 9, none⟩ = some (.int .i64 x) ∧ w'.cell? ⟨w.heap.size, 10, none⟩ = some (.int .i64 y) ∧ w'.cell? ⟨w.heap.size, 11, none⟩ = some (.int .i64 z))
      (first | (with_reducible exact HC _ HT.tail) | (with_reducible exact HC _ HT.drew.tail) | (with_reducible exact HC _ (HT.tail.far3 (by omega) (by simp <;> omega) _ _ _)))
      (first | (go_at_call 48; refine (over_any _ _ _ _ _ rowD_lo rowD_hi rowD_lo rowD_hi rowD_lo rowD_hi).mono ?_; rintro e w1 ⟨rfl, hb1⟩; (first | (have HT := HT.later hb1) | (have HT := HT.drew.later hb1))) | (go_at_call 47; refine (add_any _ _ _ _ _ _ _).mono ?_; rintro e w1 ⟨rfl, hb1⟩; (first | (have HT := HT.later hb1) | (have HT := HT.drew.later hb1)); have r0 := (HT.box 0).c 0; have g0 := (HT.box 0).f 0; have r1 := (HT.box 0).c 1; have g1 := (HT.box 0).f 1; have r2 := (HT.box 0).c 2; have g2 := (HT.box 0).f 2; have HW := HT.below))
    go_wp2
    exact bodyPost_ret (v := vec (cc (cc (fdivP (rowD a0 a1 a2 p q r) 16) + cc x)) (cc (cc (fdivP (rowD a3 a4 a5 p q r) 16) + cc y)) (cc (cc (fdivP (rowD a6 a7 a8 p q r) 16) + cc z))) (by simp [results, Tryd.results16, go_sem, r0, r1, r2]) rfl ⟨rfl, bset3 HW (by omega)⟩
end Go.Proofs.YtjflkapdnnecjaaDoor
