/- Contracts of EvalEdge: the program and its model. -/
import Derived.Test.YtjflkapdnnecjaaProg
import Derived.Test.YtjflkapdnnecjaaInts
import Derived.Test.YtjflkapdnnecjaaVbox
import Derived.Test.YtjflkapdnnecjaaVec
import Derived.Test.YtjflkapdnnecjaaHeld
import Derived.Test.YtjflkapdnnecjaaArr
import Derived.Test.YtjflkapdnnecjaaTr
import Derived.Test.YtjflkapdnnecjaaMem
import Derived.Test.YtjflkapdnnecjaaFlat
import Derived.Test.YtjflkapdnnecjaaRowC
import Derived.Test.YtjflkapdnnecjaaPat
import Derived.Test.YtjflkapdnnecjaaVLerp
import Derived.Test.YtjflkapdnnecjaaGrid
import Derived.Test.YtjflkapdnnecjaaPut
import Derived.WalkKit
import Derived.WalkSpells
import Derived.WalkLawsBesides
import Derived.Lib.Hide
import Derived.Deep.RegionHeld3
import Derived.Deep.QuietTactic
import Derived.BigQuiet
import Derived.Handy
import Derived.Deep.DeepCutAuto
namespace Go.Proofs.Ytjflkapdnnecjaa
open Go.RowKit

/-- a point of an edge: the corners' components, which edge, where -/
def edP (p q r s k i n : Int) : Int := if k = 0 then lerpP p q i n else if k = 1 then lerpP r s i n else if k = 2 then lerpP p r i n else if k = 3 then lerpP q s i n else p
theorem ed0 (p q r s i n : Int) : edP p q r s 0 i n = lerpP p q i n := by simp [edP]
theorem ed1 (p q r s i n : Int) : edP p q r s 1 i n = lerpP r s i n := by simp [edP]
theorem ed2 (p q r s i n : Int) : edP p q r s 2 i n = lerpP p r i n := by simp [edP]
theorem ed3 (p q r s i n : Int) : edP p q r s 3 i n = lerpP q s i n := by simp [edP]
theorem ed_no {k : Int} (h : ¬ (0 ≤ k ∧ k ≤ 3)) (p q r s i n : Int) : edP p q r s k i n = p := by
  unfold edP
  rw [if_neg (by omega), if_neg (by omega), if_neg (by omega), if_neg (by omega)]

set_option maxHeartbeats 4000000 in
theorem evalEdge_any (a0 a1 a2 a3 a4 a5 a6 a7 a8 x y z k i n : Int) (w : World) :
    Calls Try.prog 23 #[tr a0 a1 a2 a3 a4 a5 a6 a7 a8 x y z, .int .i64 k, .int .i64 i, .int .i64 n] w (VecOut (edP (cc a0) (cc a3) (cc a6) (cc x) k i n) (edP (cc a1) (cc a4) (cc a7) (cc y) k i n) (edP (cc a2) (cc a5) (cc a8) (cc z) k i n) w) := by
  have HT : Held w (((w.alloc (.cells #[.int .i64 a0, .int .i64 a1, .int .i64 a2, .int .i64 a3, .int .i64 a4, .int .i64 a5, .int .i64 a6, .int .i64 a7, .int .i64 a8, .int .i64 x, .int .i64 y, .int .i64 z] 27)).alloc (.cells #[.int .i64 0, .int .i64 0, .int .i64 0] 24)).alloc (.cells #[.int .i64 a0, .int .i64 a1, .int .i64 a2, .int .i64 a3, .int .i64 a4, .int .i64 a5, .int .i64 a6, .int .i64 a7, .int .i64 a8, .int .i64 x, .int .i64 y, .int .i64 z] 25)) [(w.heap.size + 2, [.int .i64 a0, .int .i64 a1, .int .i64 a2, .int .i64 a3, .int .i64 a4, .int .i64 a5, .int .i64 a6, .int .i64 a7, .int .i64 a8, .int .i64 x, .int .i64 y, .int .i64 z]), (w.heap.size + 1, [.int .i64 0, .int .i64 0, .int .i64 0]), (w.heap.size, [.int .i64 a0, .int .i64 a1, .int .i64 a2, .int .i64 a3, .int .i64 a4, .int .i64 a5, .int .i64 a6, .int .i64 a7, .int .i64 a8, .int .i64 x, .int .i64 y, .int .i64 z])] := by
    have h := (((Held.nil w).new #[.int .i64 a0, .int .i64 a1, .int .i64 a2, .int .i64 a3, .int .i64 a4, .int .i64 a5, .int .i64 a6, .int .i64 a7, .int .i64 a8, .int .i64 x, .int .i64 y, .int .i64 z] 27).new #[.int .i64 0, .int .i64 0, .int .i64 0] 24).new #[.int .i64 a0, .int .i64 a1, .int .i64 a2, .int .i64 a3, .int .i64 a4, .int .i64 a5, .int .i64 a6, .int .i64 a7, .int .i64 a8, .int .i64 x, .int .i64 y, .int .i64 z] 25
    simpa only [World.size_alloc] using h
  by_cases h0 : k = 0
  · subst h0
    go_enter Try.func23, Try.ntmps23
    go_wp2_with fail
    refine (lerp_any _ _ _ _ _ _ _ _ _).mono ?_
    rintro e w1 ⟨rfl, hb1⟩
    have HT := HT.later hb1
    clear hb1
    have r0 := (HT.box 1).c 0
    have r1 := (HT.box 1).c 1
    have r2 := (HT.box 1).c 2
    have g0 := (HT.box 1).f 0
    have g1 := (HT.box 1).f 1
    have g2 := (HT.box 1).f 2
    have HW := HT.below
    clear HT
    go_wp2_with fail
    exact bodyPost_ret (v := vec (lerpP (cc a0) (cc a3) i n) (lerpP (cc a1) (cc a4) i n) (lerpP (cc a2) (cc a5) i n)) (by simp [results, Try.results23, go_sem, r0, r1, r2]) rfl ⟨ret_vec (ed0 ..).symm (ed0 ..).symm (ed0 ..).symm, bset3 HW (by omega)⟩
  by_cases h1 : k = 1
  · subst h1
    clear h0
    go_enter Try.func23, Try.ntmps23
    go_wp2_with fail
    refine (lerp_any _ _ _ _ _ _ _ _ _).mono ?_
    rintro e w1 ⟨rfl, hb1⟩
    have HT := HT.later hb1
    clear hb1
    have r0 := (HT.box 1).c 0
    have r1 := (HT.box 1).c 1
    have r2 := (HT.box 1).c 2
    have g0 := (HT.box 1).f 0
    have g1 := (HT.box 1).f 1
    have g2 := (HT.box 1).f 2
    have HW := HT.below
    clear HT
    go_wp2_with fail
    exact bodyPost_ret (v := vec (lerpP (cc a6) (cc x) i n) (lerpP (cc a7) (cc y) i n) (lerpP (cc a8) (cc z) i n)) (by simp [results, Try.results23, go_sem, r0, r1, r2]) rfl ⟨ret_vec (ed1 ..).symm (ed1 ..).symm (ed1 ..).symm, bset3 HW (by omega)⟩
  by_cases h2 : k = 2
  · subst h2
    clear h0
    clear h1
    go_enter Try.func23, Try.ntmps23
    go_wp2_with fail
    refine (lerp_any _ _ _ _ _ _ _ _ _).mono ?_
    rintro e w1 ⟨rfl, hb1⟩
    have HT := HT.later hb1
    clear hb1
    have r0 := (HT.box 1).c 0
    have r1 := (HT.box 1).c 1
    have r2 := (HT.box 1).c 2
    have g0 := (HT.box 1).f 0
    have g1 := (HT.box 1).f 1
    have g2 := (HT.box 1).f 2
    have HW := HT.below
    clear HT
    go_wp2_with fail
    exact bodyPost_ret (v := vec (lerpP (cc a0) (cc a6) i n) (lerpP (cc a1) (cc a7) i n) (lerpP (cc a2) (cc a8) i n)) (by simp [results, Try.results23, go_sem, r0, r1, r2]) rfl ⟨ret_vec (ed2 ..).symm (ed2 ..).symm (ed2 ..).symm, bset3 HW (by omega)⟩
  by_cases h3 : k = 3
  · subst h3
    clear h0
    clear h1
    clear h2
    go_enter Try.func23, Try.ntmps23
    go_wp2_with fail
    refine (lerp_any _ _ _ _ _ _ _ _ _).mono ?_
    rintro e w1 ⟨rfl, hb1⟩
    have HT := HT.later hb1
    clear hb1
    have r0 := (HT.box 1).c 0
    have r1 := (HT.box 1).c 1
    have r2 := (HT.box 1).c 2
    have g0 := (HT.box 1).f 0
    have g1 := (HT.box 1).f 1
    have g2 := (HT.box 1).f 2
    have HW := HT.below
    clear HT
    go_wp2_with fail
    exact bodyPost_ret (v := vec (lerpP (cc a3) (cc x) i n) (lerpP (cc a4) (cc y) i n) (lerpP (cc a5) (cc z) i n)) (by simp [results, Try.results23, go_sem, r0, r1, r2]) rfl ⟨ret_vec (ed3 ..).symm (ed3 ..).symm (ed3 ..).symm, bset3 HW (by omega)⟩
  have HN := Lib.hid (show ¬ (0 ≤ k ∧ k ≤ 3) by omega)
  have g0 : (k == 0) = false := by simpa using h0
  have g1 : (k == 1) = false := by simpa using h1
  have g2 : (k == 2) = false := by simpa using h2
  have g3 : (k == 3) = false := by simpa using h3
  clear h0 h1 h2 h3
  go_enter Try.func23, Try.ntmps23
  go_wp2_with fail
  refine (clamped_any _ _ _ _).mono ?_
  rintro e w1 ⟨rfl, hb1⟩
  have HT := HT.later hb1
  clear hb1 g0 g1 g2 g3
  have r0 := (HT.box 1).c 0
  have r1 := (HT.box 1).c 1
  have r2 := (HT.box 1).c 2
  have g0 := (HT.box 1).f 0
  have g1 := (HT.box 1).f 1
  have g2 := (HT.box 1).f 2
  have HW := HT.below
  clear HT
  go_wp2_with fail
  exact bodyPost_ret (v := vec (cc a0) (cc a1) (cc a2)) (by simp [results, Try.results23, go_sem, r0, r1, r2]) rfl ⟨ret_vec (ed_no HN.out ..).symm (ed_no HN.out ..).symm (ed_no HN.out ..).symm, bset3 HW (by omega)⟩

set_option maxHeartbeats 8000000 in
theorem sEvalEdge_any (a0 a1 a2 a3 a4 a5 a6 a7 a8 x y z k i n : Int) (w : World) :
    Calls Try.prog 22 #[tr a0 a1 a2 a3 a4 a5 a6 a7 a8 x y z, .int .i64 k, .int .i64 i, .int .i64 n] w (VecOut (edP (cc a0) (cc a3) (cc a6) (cc x) k i n) (edP (cc a1) (cc a4) (cc a7) (cc y) k i n) (edP (cc a2) (cc a5) (cc a8) (cc z) k i n) w) := by
  have HT : Held w ((w.alloc (.cells #[.int .i64 a0, .int .i64 a1, .int .i64 a2, .int .i64 a3, .int .i64 a4, .int .i64 a5, .int .i64 a6, .int .i64 a7, .int .i64 a8, .int .i64 x, .int .i64 y, .int .i64 z] 27)).alloc (.cells #[.int .i64 0, .int .i64 0, .int .i64 0] 24)) [(w.heap.size + 1, [.int .i64 0, .int .i64 0, .int .i64 0]), (w.heap.size, [.int .i64 a0, .int .i64 a1, .int .i64 a2, .int .i64 a3, .int .i64 a4, .int .i64 a5, .int .i64 a6, .int .i64 a7, .int .i64 a8, .int .i64 x, .int .i64 y, .int .i64 z])] := by
    have h := ((Held.nil w).new #[.int .i64 a0, .int .i64 a1, .int .i64 a2, .int .i64 a3, .int .i64 a4, .int .i64 a5, .int .i64 a6, .int .i64 a7, .int .i64 a8, .int .i64 x, .int .i64 y, .int .i64 z] 27).new #[.int .i64 0, .int .i64 0, .int .i64 0] 24
    simpa only [World.size_alloc] using h
  by_cases h0 : k = 0
  · subst h0
    go_enter Try.func22, Try.ntmps22
    go_wp2_with fail
    refine (inV_yes _ _ _ _ (by omega) (by omega)).mono ?_
    rintro e w' ⟨rfl, rfl⟩
    go_upto_region 4 with fail
    have HT := ((((HT.new #[.int .i64 0, .int .i64 1] 3).new #[.int .i64 2, .int .i64 3] 3).new #[.int .i64 0, .int .i64 2] 3).new #[.int .i64 1, .int .i64 3] 3).new #[.slice (some ⟨w.heap.size + 1 + 1, 0, none⟩) 2 2, .slice (some ⟨w.heap.size + 1 + 1 + 1, 0, none⟩) 2 2, .slice (some ⟨w.heap.size + 1 + 1 + 1 + 1, 0, none⟩) 2 2, .slice (some ⟨w.heap.size + 1 + 1 + 1 + 1 + 1, 0, none⟩) 2 2] 81
    simp only [World.size_alloc] at HT
    have hs : w.heap.size + 1 < w.heap.size + 1 + 1 ∧ w.heap.size + 1 < w.heap.size + 1 + 1 + 1 ∧ w.heap.size + 1 < w.heap.size + 1 + 1 + 1 + 1 ∧ w.heap.size + 1 < w.heap.size + 1 + 1 + 1 + 1 + 1 ∧ w.heap.size + 1 < w.heap.size + 1 + 1 + 1 + 1 + 1 + 1 := by omega
    generalize World.alloc _ _ = W4 at HT ⊢
    generalize w.heap.size + 1 + 1 + 1 + 1 + 1 + 1 = k6 at HT hs ⊢
    generalize w.heap.size + 1 + 1 + 1 + 1 + 1 = k5 at HT hs ⊢
    generalize w.heap.size + 1 + 1 + 1 + 1 = k4 at HT hs ⊢
    generalize w.heap.size + 1 + 1 + 1 = k3 at HT hs ⊢
    generalize w.heap.size + 1 + 1 = k2 at HT hs ⊢
    obtain ⟨hs2, hs3, hs4, hs5, hs6⟩ := hs
    have HT := HT.pick (cs := (w.heap.size + 1, [.int .i64 0, .int .i64 0, .int .i64 0]) :: [(k6, [.slice (some ⟨k2, 0, none⟩) 2 2, .slice (some ⟨k3, 0, none⟩) 2 2, .slice (some ⟨k4, 0, none⟩) 2 2, .slice (some ⟨k5, 0, none⟩) 2 2]), (k2, [.int .i64 0, .int .i64 1]), (w.heap.size, [.int .i64 a0, .int .i64 a1, .int .i64 a2, .int .i64 a3, .int .i64 a4, .int .i64 a5, .int .i64 a6, .int .i64 a7, .int .i64 a8, .int .i64 x, .int .i64 y, .int .i64 z])]) (by simp)
    have HC : ∀ W, Held w W [(k6, [.slice (some ⟨k2, 0, none⟩) 2 2, .slice (some ⟨k3, 0, none⟩) 2 2, .slice (some ⟨k4, 0, none⟩) 2 2, .slice (some ⟨k5, 0, none⟩) 2 2]), (k2, [.int .i64 0, .int .i64 1]), (w.heap.size, [.int .i64 a0, .int .i64 a1, .int .i64 a2, .int .i64 a3, .int .i64 a4, .int .i64 a5, .int .i64 a6, .int .i64 a7, .int .i64 a8, .int .i64 x, .int .i64 y, .int .i64 z])] → (W.cell? ⟨k6, 0, none⟩ = some (.slice (some ⟨k2, 0, none⟩) 2 2) ∧ W.cell? ⟨k2, 0, none⟩ = some (.int .i64 0) ∧ W.cell? ⟨k2, 1, none⟩ = some (.int .i64 1) ∧ W.cell? ⟨w.heap.size, 0, none⟩ = some (.int .i64 a0) ∧ W.cell? ⟨w.heap.size, 1, none⟩ = some (.int .i64 a1) ∧ W.cell? ⟨w.heap.size, 2, none⟩ = some (.int .i64 a2) ∧ W.cell? ⟨w.heap.size, 3, none⟩ = some (.int .i64 a3) ∧ W.cell? ⟨w.heap.size, 4, none⟩ = some (.int .i64 a4) ∧ W.cell? ⟨w.heap.size, 5, none⟩ = some (.int .i64 a5)) := fun W h => ⟨(h.box 0).c 0, (h.box 1).c 0, (h.box 1).c 1, (h.box 2).c 0, (h.box 2).c 1, (h.box 2).c 2, (h.box 2).c 3, (h.box 2).c 4, (h.box 2).c 5⟩
    clear hs3 hs4 hs5
    go_region_held3 (fun w' => w'.cell? ⟨k6, 0, none⟩ = some (.slice (some ⟨k2, 0, none⟩) 2 2) ∧ w'.cell? ⟨k2, 0, none⟩ = some (.int .i64 0) ∧ w'.cell? ⟨k2, 1, none⟩ = some (.int .i64 1) ∧ w'.cell? ⟨w.heap.size, 0, none⟩ = some (.int .i64 a0) ∧ w'.cell? ⟨w.heap.size, 1, none⟩ = some (.int .i64 a1) ∧ w'.cell? ⟨w.heap.size, 2, none⟩ = some (.int .i64 a2) ∧ w'.cell? ⟨w.heap.size, 3, none⟩ = some (.int .i64 a3) ∧ w'.cell? ⟨w.heap.size, 4, none⟩ = some (.int .i64 a4) ∧ w'.cell? ⟨w.heap.size, 5, none⟩ = some (.int .i64 a5))
      (first | (with_reducible exact HC _ HT.tail) | (with_reducible exact HC _ HT.drew.tail) | (with_reducible exact HC _ (HT.tail.far3 (by omega) (by simp <;> omega) _ _ _)) | (with_reducible exact HC _ (HT.tail.far3 (by omega) (by simp <;> omega) _ _ _).drew))
      (first | (go_at_call 55; refine (sLerp_any _ _ _ _ _ _ _ _ _).mono ?_; rintro e w1 ⟨rfl, hb1⟩; (first | (have HT := HT.later hb1) | (have HT := HT.drew.later hb1)); have r0 := (HT.box 0).c 0; have gr0 := (HT.box 0).f 0; have r1 := (HT.box 0).c 1; have gr1 := (HT.box 0).f 1; have r2 := (HT.box 0).c 2; have gr2 := (HT.box 0).f 2; have HW := HT.below))
    go_wp2
    exact bodyPost_ret (v := vec (lerpP (cc a0) (cc a3) i n) (lerpP (cc a1) (cc a4) i n) (lerpP (cc a2) (cc a5) i n)) (by simp [results, Try.results22, go_sem, r0, r1, r2]) rfl ⟨ret_vec (ed0 ..).symm (ed0 ..).symm (ed0 ..).symm, bset3 HW (by omega)⟩
  by_cases h1 : k = 1
  · subst h1
    clear h0
    go_enter Try.func22, Try.ntmps22
    go_wp2_with fail
    refine (inV_yes _ _ _ _ (by omega) (by omega)).mono ?_
    rintro e w' ⟨rfl, rfl⟩
    go_upto_region 4 with fail
    have HT := ((((HT.new #[.int .i64 0, .int .i64 1] 3).new #[.int .i64 2, .int .i64 3] 3).new #[.int .i64 0, .int .i64 2] 3).new #[.int .i64 1, .int .i64 3] 3).new #[.slice (some ⟨w.heap.size + 1 + 1, 0, none⟩) 2 2, .slice (some ⟨w.heap.size + 1 + 1 + 1, 0, none⟩) 2 2, .slice (some ⟨w.heap.size + 1 + 1 + 1 + 1, 0, none⟩) 2 2, .slice (some ⟨w.heap.size + 1 + 1 + 1 + 1 + 1, 0, none⟩) 2 2] 81
    simp only [World.size_alloc] at HT
    have hs : w.heap.size + 1 < w.heap.size + 1 + 1 ∧ w.heap.size + 1 < w.heap.size + 1 + 1 + 1 ∧ w.heap.size + 1 < w.heap.size + 1 + 1 + 1 + 1 ∧ w.heap.size + 1 < w.heap.size + 1 + 1 + 1 + 1 + 1 ∧ w.heap.size + 1 < w.heap.size + 1 + 1 + 1 + 1 + 1 + 1 := by omega
    generalize World.alloc _ _ = W4 at HT ⊢
    generalize w.heap.size + 1 + 1 + 1 + 1 + 1 + 1 = k6 at HT hs ⊢
    generalize w.heap.size + 1 + 1 + 1 + 1 + 1 = k5 at HT hs ⊢
    generalize w.heap.size + 1 + 1 + 1 + 1 = k4 at HT hs ⊢
    generalize w.heap.size + 1 + 1 + 1 = k3 at HT hs ⊢
    generalize w.heap.size + 1 + 1 = k2 at HT hs ⊢
    obtain ⟨hs2, hs3, hs4, hs5, hs6⟩ := hs
    have HT := HT.pick (cs := (w.heap.size + 1, [.int .i64 0, .int .i64 0, .int .i64 0]) :: [(k6, [.slice (some ⟨k2, 0, none⟩) 2 2, .slice (some ⟨k3, 0, none⟩) 2 2, .slice (some ⟨k4, 0, none⟩) 2 2, .slice (some ⟨k5, 0, none⟩) 2 2]), (k3, [.int .i64 2, .int .i64 3]), (w.heap.size, [.int .i64 a0, .int .i64 a1, .int .i64 a2, .int .i64 a3, .int .i64 a4, .int .i64 a5, .int .i64 a6, .int .i64 a7, .int .i64 a8, .int .i64 x, .int .i64 y, .int .i64 z])]) (by simp)
    have HC : ∀ W, Held w W [(k6, [.slice (some ⟨k2, 0, none⟩) 2 2, .slice (some ⟨k3, 0, none⟩) 2 2, .slice (some ⟨k4, 0, none⟩) 2 2, .slice (some ⟨k5, 0, none⟩) 2 2]), (k3, [.int .i64 2, .int .i64 3]), (w.heap.size, [.int .i64 a0, .int .i64 a1, .int .i64 a2, .int .i64 a3, .int .i64 a4, .int .i64 a5, .int .i64 a6, .int .i64 a7, .int .i64 a8, .int .i64 x, .int .i64 y, .int .i64 z])] → (W.cell? ⟨k6, 1, none⟩ = some (.slice (some ⟨k3, 0, none⟩) 2 2) ∧ W.cell? ⟨k3, 0, none⟩ = some (.int .i64 2) ∧ W.cell? ⟨k3, 1, none⟩ = some (.int .i64 3) ∧ W.cell? ⟨w.heap.size, 6, none⟩ = some (.int .i64 a6) ∧ W.cell? ⟨w.heap.size, 7, none⟩ = some (.int .i64 a7) ∧ W.cell? ⟨w.heap.size, 8, none⟩ = some (.int .i64 a8) ∧ W.cell? ⟨w.heap.size, 9, none⟩ = some (.int .i64 x) ∧ W.cell? ⟨w.heap.size, 10, none⟩ = some (.int .i64 y) ∧ W.cell? ⟨w.heap.size, 11, none⟩ = some (.int .i64 z)) := fun W h => ⟨(h.box 0).c 1, (h.box 1).c 0, (h.box 1).c 1, (h.box 2).c 6, (h.box 2).c 7, (h.box 2).c 8, (h.box 2).c 9, (h.box 2).c 10, (h.box 2).c 11⟩
    clear hs2 hs4 hs5
    go_region_held3 (fun w' => w'.cell? ⟨k6, 1, none⟩ = some (.slice (some ⟨k3, 0, none⟩) 2 2) ∧ w'.cell? ⟨k3, 0, none⟩ = some (.int .i64 2) ∧ w'.cell? ⟨k3, 1, none⟩ = some (.int .i64 3) ∧ w'.cell? ⟨w.heap.size, 6, none⟩ = some (.int .i64 a6) ∧ w'.cell? ⟨w.heap.size, 7, none⟩ = some (.int .i64 a7) ∧ w'.cell? ⟨w.heap.size, 8, none⟩ = some (.int .i64 a8) ∧ w'.cell? ⟨w.heap.size, 9, none⟩ = some (.int .i64 x) ∧ w'.cell? ⟨w.heap.size, 10, none⟩ = some (.int .i64 y) ∧ w'.cell? ⟨w.heap.size, 11, none⟩ = some (.int .i64 z))
      (first | (with_reducible exact HC _ HT.tail) | (with_reducible exact HC _ HT.drew.tail) | (with_reducible exact HC _ (HT.tail.far3 (by omega) (by simp <;> omega) _ _ _)) | (with_reducible exact HC _ (HT.tail.far3 (by omega) (by simp <;> omega) _ _ _).drew))
      (first | (go_at_call 55; refine (sLerp_any _ _ _ _ _ _ _ _ _).mono ?_; rintro e w1 ⟨rfl, hb1⟩; (first | (have HT := HT.later hb1) | (have HT := HT.drew.later hb1)); have r0 := (HT.box 0).c 0; have gr0 := (HT.box 0).f 0; have r1 := (HT.box 0).c 1; have gr1 := (HT.box 0).f 1; have r2 := (HT.box 0).c 2; have gr2 := (HT.box 0).f 2; have HW := HT.below))
    go_wp2
    exact bodyPost_ret (v := vec (lerpP (cc a6) (cc x) i n) (lerpP (cc a7) (cc y) i n) (lerpP (cc a8) (cc z) i n)) (by simp [results, Try.results22, go_sem, r0, r1, r2]) rfl ⟨ret_vec (ed1 ..).symm (ed1 ..).symm (ed1 ..).symm, bset3 HW (by omega)⟩
  by_cases h2 : k = 2
  · subst h2
    clear h0
    clear h1
    go_enter Try.func22, Try.ntmps22
    go_wp2_with fail
    refine (inV_yes _ _ _ _ (by omega) (by omega)).mono ?_
    rintro e w' ⟨rfl, rfl⟩
    go_upto_region 4 with fail
    have HT := ((((HT.new #[.int .i64 0, .int .i64 1] 3).new #[.int .i64 2, .int .i64 3] 3).new #[.int .i64 0, .int .i64 2] 3).new #[.int .i64 1, .int .i64 3] 3).new #[.slice (some ⟨w.heap.size + 1 + 1, 0, none⟩) 2 2, .slice (some ⟨w.heap.size + 1 + 1 + 1, 0, none⟩) 2 2, .slice (some ⟨w.heap.size + 1 + 1 + 1 + 1, 0, none⟩) 2 2, .slice (some ⟨w.heap.size + 1 + 1 + 1 + 1 + 1, 0, none⟩) 2 2] 81
    simp only [World.size_alloc] at HT
    have hs : w.heap.size + 1 < w.heap.size + 1 + 1 ∧ w.heap.size + 1 < w.heap.size + 1 + 1 + 1 ∧ w.heap.size + 1 < w.heap.size + 1 + 1 + 1 + 1 ∧ w.heap.size + 1 < w.heap.size + 1 + 1 + 1 + 1 + 1 ∧ w.heap.size + 1 < w.heap.size + 1 + 1 + 1 + 1 + 1 + 1 := by omega
    generalize World.alloc _ _ = W4 at HT ⊢
    generalize w.heap.size + 1 + 1 + 1 + 1 + 1 + 1 = k6 at HT hs ⊢
    generalize w.heap.size + 1 + 1 + 1 + 1 + 1 = k5 at HT hs ⊢
    generalize w.heap.size + 1 + 1 + 1 + 1 = k4 at HT hs ⊢
    generalize w.heap.size + 1 + 1 + 1 = k3 at HT hs ⊢
    generalize w.heap.size + 1 + 1 = k2 at HT hs ⊢
    obtain ⟨hs2, hs3, hs4, hs5, hs6⟩ := hs
    have HT := HT.pick (cs := (w.heap.size + 1, [.int .i64 0, .int .i64 0, .int .i64 0]) :: [(k6, [.slice (some ⟨k2, 0, none⟩) 2 2, .slice (some ⟨k3, 0, none⟩) 2 2, .slice (some ⟨k4, 0, none⟩) 2 2, .slice (some ⟨k5, 0, none⟩) 2 2]), (k4, [.int .i64 0, .int .i64 2]), (w.heap.size, [.int .i64 a0, .int .i64 a1, .int .i64 a2, .int .i64 a3, .int .i64 a4, .int .i64 a5, .int .i64 a6, .int .i64 a7, .int .i64 a8, .int .i64 x, .int .i64 y, .int .i64 z])]) (by simp)
    have HC : ∀ W, Held w W [(k6, [.slice (some ⟨k2, 0, none⟩) 2 2, .slice (some ⟨k3, 0, none⟩) 2 2, .slice (some ⟨k4, 0, none⟩) 2 2, .slice (some ⟨k5, 0, none⟩) 2 2]), (k4, [.int .i64 0, .int .i64 2]), (w.heap.size, [.int .i64 a0, .int .i64 a1, .int .i64 a2, .int .i64 a3, .int .i64 a4, .int .i64 a5, .int .i64 a6, .int .i64 a7, .int .i64 a8, .int .i64 x, .int .i64 y, .int .i64 z])] → (W.cell? ⟨k6, 2, none⟩ = some (.slice (some ⟨k4, 0, none⟩) 2 2) ∧ W.cell? ⟨k4, 0, none⟩ = some (.int .i64 0) ∧ W.cell? ⟨k4, 1, none⟩ = some (.int .i64 2) ∧ W.cell? ⟨w.heap.size, 0, none⟩ = some (.int .i64 a0) ∧ W.cell? ⟨w.heap.size, 1, none⟩ = some (.int .i64 a1) ∧ W.cell? ⟨w.heap.size, 2, none⟩ = some (.int .i64 a2) ∧ W.cell? ⟨w.heap.size, 6, none⟩ = some (.int .i64 a6) ∧ W.cell? ⟨w.heap.size, 7, none⟩ = some (.int .i64 a7) ∧ W.cell? ⟨w.heap.size, 8, none⟩ = some (.int .i64 a8)) := fun W h => ⟨(h.box 0).c 2, (h.box 1).c 0, (h.box 1).c 1, (h.box 2).c 0, (h.box 2).c 1, (h.box 2).c 2, (h.box 2).c 6, (h.box 2).c 7, (h.box 2).c 8⟩
    clear hs2 hs3 hs5
    go_region_held3 (fun w' => w'.cell? ⟨k6, 2, none⟩ = some (.slice (some ⟨k4, 0, none⟩) 2 2) ∧ w'.cell? ⟨k4, 0, none⟩ = some (.int .i64 0) ∧ w'.cell? ⟨k4, 1, none⟩ = some (.int .i64 2) ∧ w'.cell? ⟨w.heap.size, 0, none⟩ = some (.int .i64 a0) ∧ w'.cell? ⟨w.heap.size, 1, none⟩ = some (.int .i64 a1) ∧ w'.cell? ⟨w.heap.size, 2, none⟩ = some (.int .i64 a2) ∧ w'.cell? ⟨w.heap.size, 6, none⟩ = some (.int .i64 a6) ∧ w'.cell? ⟨w.heap.size, 7, none⟩ = some (.int .i64 a7) ∧ w'.cell? ⟨w.heap.size, 8, none⟩ = some (.int .i64 a8))
      (first | (with_reducible exact HC _ HT.tail) | (with_reducible exact HC _ HT.drew.tail) | (with_reducible exact HC _ (HT.tail.far3 (by omega) (by simp <;> omega) _ _ _)) | (with_reducible exact HC _ (HT.tail.far3 (by omega) (by simp <;> omega) _ _ _).drew))
      (first | (go_at_call 55; refine (sLerp_any _ _ _ _ _ _ _ _ _).mono ?_; rintro e w1 ⟨rfl, hb1⟩; (first | (have HT := HT.later hb1) | (have HT := HT.drew.later hb1)); have r0 := (HT.box 0).c 0; have gr0 := (HT.box 0).f 0; have r1 := (HT.box 0).c 1; have gr1 := (HT.box 0).f 1; have r2 := (HT.box 0).c 2; have gr2 := (HT.box 0).f 2; have HW := HT.below))
    go_wp2
    exact bodyPost_ret (v := vec (lerpP (cc a0) (cc a6) i n) (lerpP (cc a1) (cc a7) i n) (lerpP (cc a2) (cc a8) i n)) (by simp [results, Try.results22, go_sem, r0, r1, r2]) rfl ⟨ret_vec (ed2 ..).symm (ed2 ..).symm (ed2 ..).symm, bset3 HW (by omega)⟩
  by_cases h3 : k = 3
  · subst h3
    clear h0
    clear h1
    clear h2
    go_enter Try.func22, Try.ntmps22
    go_wp2_with fail
    refine (inV_yes _ _ _ _ (by omega) (by omega)).mono ?_
    rintro e w' ⟨rfl, rfl⟩
    go_upto_region 4 with fail
    have HT := ((((HT.new #[.int .i64 0, .int .i64 1] 3).new #[.int .i64 2, .int .i64 3] 3).new #[.int .i64 0, .int .i64 2] 3).new #[.int .i64 1, .int .i64 3] 3).new #[.slice (some ⟨w.heap.size + 1 + 1, 0, none⟩) 2 2, .slice (some ⟨w.heap.size + 1 + 1 + 1, 0, none⟩) 2 2, .slice (some ⟨w.heap.size + 1 + 1 + 1 + 1, 0, none⟩) 2 2, .slice (some ⟨w.heap.size + 1 + 1 + 1 + 1 + 1, 0, none⟩) 2 2] 81
    simp only [World.size_alloc] at HT
    have hs : w.heap.size + 1 < w.heap.size + 1 + 1 ∧ w.heap.size + 1 < w.heap.size + 1 + 1 + 1 ∧ w.heap.size + 1 < w.heap.size + 1 + 1 + 1 + 1 ∧ w.heap.size + 1 < w.heap.size + 1 + 1 + 1 + 1 + 1 ∧ w.heap.size + 1 < w.heap.size + 1 + 1 + 1 + 1 + 1 + 1 := by omega
    generalize World.alloc _ _ = W4 at HT ⊢
    generalize w.heap.size + 1 + 1 + 1 + 1 + 1 + 1 = k6 at HT hs ⊢
    generalize w.heap.size + 1 + 1 + 1 + 1 + 1 = k5 at HT hs ⊢
    generalize w.heap.size + 1 + 1 + 1 + 1 = k4 at HT hs ⊢
    generalize w.heap.size + 1 + 1 + 1 = k3 at HT hs ⊢
    generalize w.heap.size + 1 + 1 = k2 at HT hs ⊢
    obtain ⟨hs2, hs3, hs4, hs5, hs6⟩ := hs
    have HT := HT.pick (cs := (w.heap.size + 1, [.int .i64 0, .int .i64 0, .int .i64 0]) :: [(k6, [.slice (some ⟨k2, 0, none⟩) 2 2, .slice (some ⟨k3, 0, none⟩) 2 2, .slice (some ⟨k4, 0, none⟩) 2 2, .slice (some ⟨k5, 0, none⟩) 2 2]), (k5, [.int .i64 1, .int .i64 3]), (w.heap.size, [.int .i64 a0, .int .i64 a1, .int .i64 a2, .int .i64 a3, .int .i64 a4, .int .i64 a5, .int .i64 a6, .int .i64 a7, .int .i64 a8, .int .i64 x, .int .i64 y, .int .i64 z])]) (by simp)
    have HC : ∀ W, Held w W [(k6, [.slice (some ⟨k2, 0, none⟩) 2 2, .slice (some ⟨k3, 0, none⟩) 2 2, .slice (some ⟨k4, 0, none⟩) 2 2, .slice (some ⟨k5, 0, none⟩) 2 2]), (k5, [.int .i64 1, .int .i64 3]), (w.heap.size, [.int .i64 a0, .int .i64 a1, .int .i64 a2, .int .i64 a3, .int .i64 a4, .int .i64 a5, .int .i64 a6, .int .i64 a7, .int .i64 a8, .int .i64 x, .int .i64 y, .int .i64 z])] → (W.cell? ⟨k6, 3, none⟩ = some (.slice (some ⟨k5, 0, none⟩) 2 2) ∧ W.cell? ⟨k5, 0, none⟩ = some (.int .i64 1) ∧ W.cell? ⟨k5, 1, none⟩ = some (.int .i64 3) ∧ W.cell? ⟨w.heap.size, 3, none⟩ = some (.int .i64 a3) ∧ W.cell? ⟨w.heap.size, 4, none⟩ = some (.int .i64 a4) ∧ W.cell? ⟨w.heap.size, 5, none⟩ = some (.int .i64 a5) ∧ W.cell? ⟨w.heap.size, 9, none⟩ = some (.int .i64 x) ∧ W.cell? ⟨w.heap.size, 10, none⟩ = some (.int .i64 y) ∧ W.cell? ⟨w.heap.size, 11, none⟩ = some (.int .i64 z)) := fun W h => ⟨(h.box 0).c 3, (h.box 1).c 0, (h.box 1).c 1, (h.box 2).c 3, (h.box 2).c 4, (h.box 2).c 5, (h.box 2).c 9, (h.box 2).c 10, (h.box 2).c 11⟩
    clear hs2 hs3 hs4
    go_region_held3 (fun w' => w'.cell? ⟨k6, 3, none⟩ = some (.slice (some ⟨k5, 0, none⟩) 2 2) ∧ w'.cell? ⟨k5, 0, none⟩ = some (.int .i64 1) ∧ w'.cell? ⟨k5, 1, none⟩ = some (.int .i64 3) ∧ w'.cell? ⟨w.heap.size, 3, none⟩ = some (.int .i64 a3) ∧ w'.cell? ⟨w.heap.size, 4, none⟩ = some (.int .i64 a4) ∧ w'.cell? ⟨w.heap.size, 5, none⟩ = some (.int .i64 a5) ∧ w'.cell? ⟨w.heap.size, 9, none⟩ = some (.int .i64 x) ∧ w'.cell? ⟨w.heap.size, 10, none⟩ = some (.int .i64 y) ∧ w'.cell? ⟨w.heap.size, 11, none⟩ = some (.int .i64 z))
      (first | (with_reducible exact HC _ HT.tail) | (with_reducible exact HC _ HT.drew.tail) | (with_reducible exact HC _ (HT.tail.far3 (by omega) (by simp <;> omega) _ _ _)) | (with_reducible exact HC _ (HT.tail.far3 (by omega) (by simp <;> omega) _ _ _).drew))
      (first | (go_at_call 55; refine (sLerp_any _ _ _ _ _ _ _ _ _).mono ?_; rintro e w1 ⟨rfl, hb1⟩; (first | (have HT := HT.later hb1) | (have HT := HT.drew.later hb1)); have r0 := (HT.box 0).c 0; have gr0 := (HT.box 0).f 0; have r1 := (HT.box 0).c 1; have gr1 := (HT.box 0).f 1; have r2 := (HT.box 0).c 2; have gr2 := (HT.box 0).f 2; have HW := HT.below))
    go_wp2
    exact bodyPost_ret (v := vec (lerpP (cc a3) (cc x) i n) (lerpP (cc a4) (cc y) i n) (lerpP (cc a5) (cc z) i n)) (by simp [results, Try.results22, go_sem, r0, r1, r2]) rfl ⟨ret_vec (ed3 ..).symm (ed3 ..).symm (ed3 ..).symm, bset3 HW (by omega)⟩
  have HN := Lib.hid (show ¬ (0 ≤ k ∧ k ≤ 3) by omega)
  clear h0 h1 h2 h3
  go_enter Try.func22, Try.ntmps22
  go_wp2_with fail
  refine (inV_no _ _ _ _ HN.out).mono ?_
  rintro e w' ⟨rfl, rfl⟩
  go_wp2_with fail
  refine (l02V_any _ _ _ _).mono ?_
  rintro e w1 ⟨rfl, hb1⟩
  have HT := HT.later hb1
  clear hb1
  have r0 := (HT.box 0).c 0
  have r1 := (HT.box 0).c 1
  have r2 := (HT.box 0).c 2
  have g0 := (HT.box 0).f 0
  have g1 := (HT.box 0).f 1
  have g2 := (HT.box 0).f 2
  have HW := HT.below
  clear HT
  go_wp2_with fail
  exact bodyPost_ret (v := vec (cc a0) (cc a1) (cc a2)) (by simp [results, Try.results22, go_sem, r0, r1, r2]) rfl ⟨ret_vec (ed_no HN.out ..).symm (ed_no HN.out ..).symm (ed_no HN.out ..).symm, bset3 HW (by omega)⟩
end Go.Proofs.Ytjflkapdnnecjaa
