/- Contracts of clamping a triangle: the program and its model. -/
import Derived.Test.YtjjafbcfmijppaaProg
import Derived.Test.YtjjafbcfmijppaaInts
import Derived.Test.YtjjafbcfmijppaaVbox
import Derived.Test.YtjjafbcfmijppaaVec
import Derived.Test.YtjjafbcfmijppaaHeld
import Derived.Test.YtjjafbcfmijppaaArr
import Derived.Test.YtjjafbcfmijppaaTr
import Derived.Test.YtjjafbcfmijppaaMem
import Derived.Test.YtjjafbcfmijppaaFlat
import Derived.Test.YtjjafbcfmijppaaRowC
import Derived.Test.YtjjafbcfmijppaaPat
import Derived.Test.YtjjafbcfmijppaaCam
import Derived.Test.YtjjafbcfmijppaaCPrj
import Derived.Test.YtjjafbcfmijppaaTri
import Derived.WalkKit
import Derived.WalkSpells
import Derived.WalkLawsBesides
import Derived.Lib.Hide
import Derived.Deep.RegionHeld3
import Derived.Deep.QuietTactic
import Derived.BigQuiet
import Derived.Handy
import Derived.Deep.DeepCutAuto
namespace Go.Proofs.Ytjjafbcfmijppaa
open Go.RowKit

/-- a corner, clamped -/
def scV (v : V3) : V3 := (scr v.1, scr v.2.1, cc v.2.2)
theorem scr_bd (n : Int) : -100000 ≤ scr n ∧ scr n ≤ 100000 := clampP_bd n _ _ (by omega)
theorem scr_in {n : Int} (h0 : -100000 ≤ n) (h1 : n ≤ 100000) : scr n = n := by unfold scr clampP; split <;> (try split) <;> omega
theorem index_tri (a0 a1 a2 a3 a4 a5 a6 a7 a8 : Int) (v : V3) (k : Nat) (h : ([(a0, a1, a2), (a3, a4, a5), (a6, a7, a8)] : List V3)[k]? = some v) (w : World) : (Instr.index 25 (mat a0 a1 a2 a3 a4 a5 a6 a7 a8) (.int .i64 k)).run Try.prog w = .ok (vec v.1 v.2.1 v.2.2) w := by
  match k, h with
  | 0, h =>
    obtain rfl := Option.some.inj h
    exact (show (Instr.index 25 (mat a0 a1 a2 a3 a4 a5 a6 a7 a8) (.int .i64 ((0 : Nat) : Int))).run Try.prog w = .ok (vec a0 a1 a2) w by kernel_rfl)
  | 1, h =>
    obtain rfl := Option.some.inj h
    exact (show (Instr.index 25 (mat a0 a1 a2 a3 a4 a5 a6 a7 a8) (.int .i64 ((1 : Nat) : Int))).run Try.prog w = .ok (vec a3 a4 a5) w by kernel_rfl)
  | 2, h =>
    obtain rfl := Option.some.inj h
    exact (show (Instr.index 25 (mat a0 a1 a2 a3 a4 a5 a6 a7 a8) (.int .i64 ((2 : Nat) : Int))).run Try.prog w = .ok (vec a6 a7 a8) w by kernel_rfl)
  | k + 3, h => simp at h

set_option maxHeartbeats 4000000 in
theorem tclamped_any (a0 a1 a2 a3 a4 a5 a6 a7 a8 : Int) (w : World) :
    Calls Try.prog 31 #[mat a0 a1 a2 a3 a4 a5 a6 a7 a8] w (MatOut (scr a0) (scr a1) (cc a2) (scr a3) (scr a4) (cc a5) (scr a6) (scr a7) (cc a8) w) := by
  have HT : Held w ((w.alloc (.cells #[.int .i64 a0, .int .i64 a1, .int .i64 a2, .int .i64 a3, .int .i64 a4, .int .i64 a5, .int .i64 a6, .int .i64 a7, .int .i64 a8] 27)).alloc (.cells #[.int .i64 0, .int .i64 0, .int .i64 0, .int .i64 0, .int .i64 0, .int .i64 0, .int .i64 0, .int .i64 0, .int .i64 0] 27)) [(w.heap.size + 1, [.int .i64 0, .int .i64 0, .int .i64 0, .int .i64 0, .int .i64 0, .int .i64 0, .int .i64 0, .int .i64 0, .int .i64 0]), (w.heap.size, [.int .i64 a0, .int .i64 a1, .int .i64 a2, .int .i64 a3, .int .i64 a4, .int .i64 a5, .int .i64 a6, .int .i64 a7, .int .i64 a8])] := by
    have h := ((Held.nil w).new #[.int .i64 a0, .int .i64 a1, .int .i64 a2, .int .i64 a3, .int .i64 a4, .int .i64 a5, .int .i64 a6, .int .i64 a7, .int .i64 a8] 27).new #[.int .i64 0, .int .i64 0, .int .i64 0, .int .i64 0, .int .i64 0, .int .i64 0, .int .i64 0, .int .i64 0, .int .i64 0] 27
    simpa only [World.size_alloc] using h
  have HT := HT.pick (cs := [(w.heap.size, [.int .i64 a0, .int .i64 a1, .int .i64 a2, .int .i64 a3, .int .i64 a4, .int .i64 a5, .int .i64 a6, .int .i64 a7, .int .i64 a8]), (w.heap.size + 1, [.int .i64 0, .int .i64 0, .int .i64 0, .int .i64 0, .int .i64 0, .int .i64 0, .int .i64 0, .int .i64 0, .int .i64 0])]) (by simp)
  go_enter Try.func31, Try.ntmps31
  go_wp2
  go_loopw [7] (fun i wr => (i = .int .i64 0 ∧ Held w wr [(w.heap.size, [.int .i64 a0, .int .i64 a1, .int .i64 a2, .int .i64 a3, .int .i64 a4, .int .i64 a5, .int .i64 a6, .int .i64 a7, .int .i64 a8]), (w.heap.size + 1, [.int .i64 0, .int .i64 0, .int .i64 0, .int .i64 0, .int .i64 0, .int .i64 0, .int .i64 0, .int .i64 0, .int .i64 0])]) ∨ (i = .int .i64 1 ∧ Held w wr [(w.heap.size, [.int .i64 (scr a0), .int .i64 (scr a1), .int .i64 (cc a2), .int .i64 a3, .int .i64 a4, .int .i64 a5, .int .i64 a6, .int .i64 a7, .int .i64 a8]), (w.heap.size + 1, [.int .i64 0, .int .i64 0, .int .i64 0, .int .i64 0, .int .i64 0, .int .i64 0, .int .i64 0, .int .i64 0, .int .i64 0])]) ∨ (i = .int .i64 2 ∧ Held w wr [(w.heap.size, [.int .i64 (scr a0), .int .i64 (scr a1), .int .i64 (cc a2), .int .i64 (scr a3), .int .i64 (scr a4), .int .i64 (cc a5), .int .i64 a6, .int .i64 a7, .int .i64 a8]), (w.heap.size + 1, [.int .i64 0, .int .i64 0, .int .i64 0, .int .i64 0, .int .i64 0, .int .i64 0, .int .i64 0, .int .i64 0, .int .i64 0])]) ∨ (i = .int .i64 3 ∧ Held w wr [(w.heap.size, [.int .i64 (scr a0), .int .i64 (scr a1), .int .i64 (cc a2), .int .i64 (scr a3), .int .i64 (scr a4), .int .i64 (cc a5), .int .i64 (scr a6), .int .i64 (scr a7), .int .i64 (cc a8)]), (w.heap.size + 1, [.int .i64 0, .int .i64 0, .int .i64 0, .int .i64 0, .int .i64 0, .int .i64 0, .int .i64 0, .int .i64 0, .int .i64 0])])) (fun i _ => 3 - (intOf i).toNat)
  case atStart => exact (Or.inl ⟨rfl, HT⟩)
  case round =>
    clear HT
    rcases hrel with ⟨rfl, HT⟩ | ⟨rfl, HT⟩ | ⟨rfl, HT⟩ | ⟨rfl, HT⟩
    · have hix : ∀ w : World, (Instr.index 25 (mat a0 a1 a2 a3 a4 a5 a6 a7 a8) (.int .i64 0)).run Try.prog w = .ok (vec a0 a1 a2) w := fun w => index_tri a0 a1 a2 a3 a4 a5 a6 a7 a8 (a0, a1, a2) 0 rfl w
      go_upto_region 4 with fail
      have hz0 := (HT.box 1).lt
      have hz1 := HT.size
      have HV : Held w (wr.alloc (.cells #[.int .i64 a0, .int .i64 a1, .int .i64 a2] 24)) [(wr.heap.size, [.int .i64 a0, .int .i64 a1, .int .i64 a2])] := (HT.pick (cs := []) (by simp)).new #[.int .i64 a0, .int .i64 a1, .int .i64 a2] 24
      have HT := HT.alloc (.cells #[.int .i64 a0, .int .i64 a1, .int .i64 a2] 24)
      obtain ⟨W1, hW1⟩ : ∃ W, W = wr.alloc (.cells #[.int .i64 a0, .int .i64 a1, .int .i64 a2] 24) := ⟨_, rfl⟩
      rw [← hW1] at HT HV ⊢
      clear hW1
      generalize wr.heap.size = k1 at HV hz0 hz1 ⊢
      have HC : ∀ W, Held w W [(k1, [.int .i64 a0, .int .i64 a1, .int .i64 a2])] → (W.cell? ⟨k1, 0, none⟩ = some (.int .i64 a0) ∧ W.cell? ⟨k1, 1, none⟩ = some (.int .i64 a1) ∧ W.cell? ⟨k1, 2, none⟩ = some (.int .i64 a2)) := fun W h => ⟨(h.box 0).c 0, (h.box 0).c 1, (h.box 0).c 2⟩
      have d0 := (HT.box 0).c 0
      have f0 := (HT.box 0).f 0
      have d1 := (HT.box 0).c 1
      have f1 := (HT.box 0).f 1
      have d2 := (HT.box 0).c 2
      have f2 := (HT.box 0).f 2
      have HH := Lib.hid (((HT.put (by omega) (by simp) 0 (.int .i64 (scr a0))).put (by omega) (by simp) 1 (.int .i64 (scr a1))).put (by omega) (by simp) 2 (.int .i64 (cc a2)))
      clear HT
      go_region_held3 (fun w' => w'.cell? ⟨k1, 0, none⟩ = some (.int .i64 a0) ∧ w'.cell? ⟨k1, 1, none⟩ = some (.int .i64 a1) ∧ w'.cell? ⟨k1, 2, none⟩ = some (.int .i64 a2))
        (first | (with_reducible exact HC _ HV) | (with_reducible exact HC _ HV.drew) | (with_reducible exact HC _ (HV.far3 (by omega) (by simp <;> omega) _ _ _)) | (with_reducible exact HC _ (HV.far3 (by omega) (by simp <;> omega) _ _ _).drew))
        (first | (go_at_call 51; refine (clampScreen_any _ _).mono ?_; rintro e w1 ⟨rfl, rfl⟩) | (go_at_call 52; refine (clampCoord_any _ _).mono ?_; rintro e w1 ⟨rfl, rfl⟩))
      go_wp2_with fail
      go_roundw
      case rel => exact (Or.inr (Or.inl ⟨by go_num, HH.out.drew⟩))
      case measure => simp [intOf]
    · have hix : ∀ w : World, (Instr.index 25 (mat a0 a1 a2 a3 a4 a5 a6 a7 a8) (.int .i64 1)).run Try.prog w = .ok (vec a3 a4 a5) w := fun w => index_tri a0 a1 a2 a3 a4 a5 a6 a7 a8 (a3, a4, a5) 1 rfl w
      go_upto_region 4 with fail
      have hz0 := (HT.box 1).lt
      have hz1 := HT.size
      have HV : Held w (wr.alloc (.cells #[.int .i64 a3, .int .i64 a4, .int .i64 a5] 24)) [(wr.heap.size, [.int .i64 a3, .int .i64 a4, .int .i64 a5])] := (HT.pick (cs := []) (by simp)).new #[.int .i64 a3, .int .i64 a4, .int .i64 a5] 24
      have HT := HT.alloc (.cells #[.int .i64 a3, .int .i64 a4, .int .i64 a5] 24)
      obtain ⟨W1, hW1⟩ : ∃ W, W = wr.alloc (.cells #[.int .i64 a3, .int .i64 a4, .int .i64 a5] 24) := ⟨_, rfl⟩
      rw [← hW1] at HT HV ⊢
      clear hW1
      generalize wr.heap.size = k1 at HV hz0 hz1 ⊢
      have HC : ∀ W, Held w W [(k1, [.int .i64 a3, .int .i64 a4, .int .i64 a5])] → (W.cell? ⟨k1, 0, none⟩ = some (.int .i64 a3) ∧ W.cell? ⟨k1, 1, none⟩ = some (.int .i64 a4) ∧ W.cell? ⟨k1, 2, none⟩ = some (.int .i64 a5)) := fun W h => ⟨(h.box 0).c 0, (h.box 0).c 1, (h.box 0).c 2⟩
      have d0 := (HT.box 0).c 3
      have f0 := (HT.box 0).f 3
      have d1 := (HT.box 0).c 4
      have f1 := (HT.box 0).f 4
      have d2 := (HT.box 0).c 5
      have f2 := (HT.box 0).f 5
      have HH := Lib.hid (((HT.put (by omega) (by simp) 3 (.int .i64 (scr a3))).put (by omega) (by simp) 4 (.int .i64 (scr a4))).put (by omega) (by simp) 5 (.int .i64 (cc a5)))
      clear HT
      go_region_held3 (fun w' => w'.cell? ⟨k1, 0, none⟩ = some (.int .i64 a3) ∧ w'.cell? ⟨k1, 1, none⟩ = some (.int .i64 a4) ∧ w'.cell? ⟨k1, 2, none⟩ = some (.int .i64 a5))
        (first | (with_reducible exact HC _ HV) | (with_reducible exact HC _ HV.drew) | (with_reducible exact HC _ (HV.far3 (by omega) (by simp <;> omega) _ _ _)) | (with_reducible exact HC _ (HV.far3 (by omega) (by simp <;> omega) _ _ _).drew))
        (first | (go_at_call 51; refine (clampScreen_any _ _).mono ?_; rintro e w1 ⟨rfl, rfl⟩) | (go_at_call 52; refine (clampCoord_any _ _).mono ?_; rintro e w1 ⟨rfl, rfl⟩))
      go_wp2_with fail
      go_roundw
      case rel => exact (Or.inr (Or.inr (Or.inl ⟨by go_num, HH.out.drew⟩)))
      case measure => simp [intOf]
    · have hix : ∀ w : World, (Instr.index 25 (mat a0 a1 a2 a3 a4 a5 a6 a7 a8) (.int .i64 2)).run Try.prog w = .ok (vec a6 a7 a8) w := fun w => index_tri a0 a1 a2 a3 a4 a5 a6 a7 a8 (a6, a7, a8) 2 rfl w
      go_upto_region 4 with fail
      have hz0 := (HT.box 1).lt
      have hz1 := HT.size
      have HV : Held w (wr.alloc (.cells #[.int .i64 a6, .int .i64 a7, .int .i64 a8] 24)) [(wr.heap.size, [.int .i64 a6, .int .i64 a7, .int .i64 a8])] := (HT.pick (cs := []) (by simp)).new #[.int .i64 a6, .int .i64 a7, .int .i64 a8] 24
      have HT := HT.alloc (.cells #[.int .i64 a6, .int .i64 a7, .int .i64 a8] 24)
      obtain ⟨W1, hW1⟩ : ∃ W, W = wr.alloc (.cells #[.int .i64 a6, .int .i64 a7, .int .i64 a8] 24) := ⟨_, rfl⟩
      rw [← hW1] at HT HV ⊢
      clear hW1
      generalize wr.heap.size = k1 at HV hz0 hz1 ⊢
      have HC : ∀ W, Held w W [(k1, [.int .i64 a6, .int .i64 a7, .int .i64 a8])] → (W.cell? ⟨k1, 0, none⟩ = some (.int .i64 a6) ∧ W.cell? ⟨k1, 1, none⟩ = some (.int .i64 a7) ∧ W.cell? ⟨k1, 2, none⟩ = some (.int .i64 a8)) := fun W h => ⟨(h.box 0).c 0, (h.box 0).c 1, (h.box 0).c 2⟩
      have d0 := (HT.box 0).c 6
      have f0 := (HT.box 0).f 6
      have d1 := (HT.box 0).c 7
      have f1 := (HT.box 0).f 7
      have d2 := (HT.box 0).c 8
      have f2 := (HT.box 0).f 8
      have HH := Lib.hid (((HT.put (by omega) (by simp) 6 (.int .i64 (scr a6))).put (by omega) (by simp) 7 (.int .i64 (scr a7))).put (by omega) (by simp) 8 (.int .i64 (cc a8)))
      clear HT
      go_region_held3 (fun w' => w'.cell? ⟨k1, 0, none⟩ = some (.int .i64 a6) ∧ w'.cell? ⟨k1, 1, none⟩ = some (.int .i64 a7) ∧ w'.cell? ⟨k1, 2, none⟩ = some (.int .i64 a8))
        (first | (with_reducible exact HC _ HV) | (with_reducible exact HC _ HV.drew) | (with_reducible exact HC _ (HV.far3 (by omega) (by simp <;> omega) _ _ _)) | (with_reducible exact HC _ (HV.far3 (by omega) (by simp <;> omega) _ _ _).drew))
        (first | (go_at_call 51; refine (clampScreen_any _ _).mono ?_; rintro e w1 ⟨rfl, rfl⟩) | (go_at_call 52; refine (clampCoord_any _ _).mono ?_; rintro e w1 ⟨rfl, rfl⟩))
      go_wp2_with fail
      go_roundw
      case rel => exact (Or.inr (Or.inr (Or.inr ⟨by go_num, HH.out.drew⟩)))
      case measure => simp [intOf]
    · skip
      have c0 := (HT.box 0).c 0
      have c1 := (HT.box 0).c 1
      have c2 := (HT.box 0).c 2
      have c3 := (HT.box 0).c 3
      have c4 := (HT.box 0).c 4
      have c5 := (HT.box 0).c 5
      have c6 := (HT.box 0).c 6
      have c7 := (HT.box 0).c 7
      have c8 := (HT.box 0).c 8
      have r0 := (HT.box 1).c 0
      have r1 := (HT.box 1).c 1
      have r2 := (HT.box 1).c 2
      have r3 := (HT.box 1).c 3
      have r4 := (HT.box 1).c 4
      have r5 := (HT.box 1).c 5
      have r6 := (HT.box 1).c 6
      have r7 := (HT.box 1).c 7
      have r8 := (HT.box 1).c 8
      have g0 := (HT.box 1).f 0
      have g1 := (HT.box 1).f 1
      have g2 := (HT.box 1).f 2
      have g3 := (HT.box 1).f 3
      have g4 := (HT.box 1).f 4
      have g5 := (HT.box 1).f 5
      have g6 := (HT.box 1).f 6
      have g7 := (HT.box 1).f 7
      have g8 := (HT.box 1).f 8
      have HW := HT.below
      clear HT
      go_wp2_with fail
      exact bodyPost_ret (v := mat (scr a0) (scr a1) (cc a2) (scr a3) (scr a4) (cc a5) (scr a6) (scr a7) (cc a8)) (by simp [results, Try.results31, go_sem, r0, r1, r2, r3, r4, r5, r6, r7, r8]) rfl ⟨rfl, bset_far9 HW (by omega)⟩

set_option maxHeartbeats 2000000 in
theorem l09V_any (x y z : Int) (w : World) :
    Calls Try.prog 56 #[vec x y z] w (VecOut (scr x) (scr y) (cc z) w) := by
  have hcl : ∀ (n : Int) (w : World), Calls Try.prog 69 #[.int .i64 n, .int .i64 (-100000), .int .i64 100000] w fun e w' => e = .returned (.int .i64 (scr n)) ∧ w = w' := fun n w => sClamp_any n _ _ w
  go_enter Try.func56, Try.ntmps56
  go_wp2_with fail
  go_region_held3 (fun w' => w'.cell? ⟨w.heap.size, 0, none⟩ = some (.int .i64 (x)) ∧ w'.cell? ⟨w.heap.size, 1, none⟩ = some (.int .i64 (y)) ∧ w'.cell? ⟨w.heap.size, 2, none⟩ = some (.int .i64 (z))) (go_keep)
    (first | (go_at_call 70; refine (l02N_any _ _).mono ?_; rintro e w' ⟨rfl, rfl⟩) | (go_at_call 69; refine (hcl _ _).mono ?_; rintro e w' ⟨rfl, rfl⟩))
  go_wp2
  exact bodyPost_ret (v := vec (scr x) (scr y) (cc z)) (by simp [results, Try.results56, go_sem]) rfl ⟨rfl, by go_grown⟩

set_option maxHeartbeats 4000000 in
theorem l09P_any (a0 a1 a2 a3 a4 a5 a6 a7 a8 : Int) (w : World) :
    Calls Try.prog 38 #[mat a0 a1 a2 a3 a4 a5 a6 a7 a8] w (MatOut (scr a0) (scr a1) (cc a2) (scr a3) (scr a4) (cc a5) (scr a6) (scr a7) (cc a8) w) := by
  have HT : Held w ((w.alloc (.cells #[.int .i64 a0, .int .i64 a1, .int .i64 a2, .int .i64 a3, .int .i64 a4, .int .i64 a5, .int .i64 a6, .int .i64 a7, .int .i64 a8] 27)).alloc (.cells #[.int .i64 0, .int .i64 0, .int .i64 0, .int .i64 0, .int .i64 0, .int .i64 0, .int .i64 0, .int .i64 0, .int .i64 0] 25)) [(w.heap.size + 1, [.int .i64 0, .int .i64 0, .int .i64 0, .int .i64 0, .int .i64 0, .int .i64 0, .int .i64 0, .int .i64 0, .int .i64 0]), (w.heap.size, [.int .i64 a0, .int .i64 a1, .int .i64 a2, .int .i64 a3, .int .i64 a4, .int .i64 a5, .int .i64 a6, .int .i64 a7, .int .i64 a8])] := by
    have h := ((Held.nil w).new #[.int .i64 a0, .int .i64 a1, .int .i64 a2, .int .i64 a3, .int .i64 a4, .int .i64 a5, .int .i64 a6, .int .i64 a7, .int .i64 a8] 27).new #[.int .i64 0, .int .i64 0, .int .i64 0, .int .i64 0, .int .i64 0, .int .i64 0, .int .i64 0, .int .i64 0, .int .i64 0] 25
    simpa only [World.size_alloc] using h
  have HC : ∀ W, Held w W [(w.heap.size, [.int .i64 a0, .int .i64 a1, .int .i64 a2, .int .i64 a3, .int .i64 a4, .int .i64 a5, .int .i64 a6, .int .i64 a7, .int .i64 a8])] → (W.cell? ⟨w.heap.size, 0, none⟩ = some (.int .i64 a0) ∧ W.cell? ⟨w.heap.size, 1, none⟩ = some (.int .i64 a1) ∧ W.cell? ⟨w.heap.size, 2, none⟩ = some (.int .i64 a2) ∧ W.cell? ⟨w.heap.size, 3, none⟩ = some (.int .i64 a3) ∧ W.cell? ⟨w.heap.size, 4, none⟩ = some (.int .i64 a4) ∧ W.cell? ⟨w.heap.size, 5, none⟩ = some (.int .i64 a5) ∧ W.cell? ⟨w.heap.size, 6, none⟩ = some (.int .i64 a6) ∧ W.cell? ⟨w.heap.size, 7, none⟩ = some (.int .i64 a7) ∧ W.cell? ⟨w.heap.size, 8, none⟩ = some (.int .i64 a8)) := fun W h => ⟨(h.box 0).c 0, (h.box 0).c 1, (h.box 0).c 2, (h.box 0).c 3, (h.box 0).c 4, (h.box 0).c 5, (h.box 0).c 6, (h.box 0).c 7, (h.box 0).c 8⟩
  go_enter Try.func38, Try.ntmps38
  go_wp2_with fail
  go_region_held3 (fun w' => w'.cell? ⟨w.heap.size, 0, none⟩ = some (.int .i64 a0) ∧ w'.cell? ⟨w.heap.size, 1, none⟩ = some (.int .i64 a1) ∧ w'.cell? ⟨w.heap.size, 2, none⟩ = some (.int .i64 a2) ∧ w'.cell? ⟨w.heap.size, 3, none⟩ = some (.int .i64 a3) ∧ w'.cell? ⟨w.heap.size, 4, none⟩ = some (.int .i64 a4) ∧ w'.cell? ⟨w.heap.size, 5, none⟩ = some (.int .i64 a5) ∧ w'.cell? ⟨w.heap.size, 6, none⟩ = some (.int .i64 a6) ∧ w'.cell? ⟨w.heap.size, 7, none⟩ = some (.int .i64 a7) ∧ w'.cell? ⟨w.heap.size, 8, none⟩ = some (.int .i64 a8))
    (first | (with_reducible exact HC _ HT.tail) | (with_reducible exact HC _ HT.drew.tail) | (with_reducible exact HC _ (HT.tail.far9 (by omega) (by simp <;> omega) _ _ _ _ _ _ _ _ _)))
    (first | (go_at_call 56; refine (l09V_any _ _ _ _).mono ?_; rintro e w1 ⟨rfl, hb1⟩; (first | (have HT := HT.later hb1) | (have HT := HT.drew.later hb1)); have r0 := (HT.box 0).c 0; have g0 := (HT.box 0).f 0; have r1 := (HT.box 0).c 1; have g1 := (HT.box 0).f 1; have r2 := (HT.box 0).c 2; have g2 := (HT.box 0).f 2; have r3 := (HT.box 0).c 3; have g3 := (HT.box 0).f 3; have r4 := (HT.box 0).c 4; have g4 := (HT.box 0).f 4; have r5 := (HT.box 0).c 5; have g5 := (HT.box 0).f 5; have r6 := (HT.box 0).c 6; have g6 := (HT.box 0).f 6; have r7 := (HT.box 0).c 7; have g7 := (HT.box 0).f 7; have r8 := (HT.box 0).c 8; have g8 := (HT.box 0).f 8; have HW := HT.below))
  go_wp2
  exact bodyPost_ret (v := mat (scr a0) (scr a1) (cc a2) (scr a3) (scr a4) (cc a5) (scr a6) (scr a7) (cc a8)) (by simp [results, Try.results38, go_sem, r0, r1, r2, r3, r4, r5, r6, r7, r8]) rfl ⟨rfl, bset_far9 HW (by omega)⟩
end Go.Proofs.Ytjjafbcfmijppaa
