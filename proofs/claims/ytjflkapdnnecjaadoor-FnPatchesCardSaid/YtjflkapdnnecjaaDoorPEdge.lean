/- Contracts of EvalEdge: the program and its model. -/
import Derived.Test.YtjflkapdnnecjaaDoorProg
import Derived.Test.YtjflkapdnnecjaaDoorInts
import Derived.Test.YtjflkapdnnecjaaDoorVbox
import Derived.Test.YtjflkapdnnecjaaDoorVec
import Derived.Test.YtjflkapdnnecjaaDoorHeld
import Derived.Test.YtjflkapdnnecjaaDoorArr
import Derived.Test.YtjflkapdnnecjaaDoorTr
import Derived.Test.YtjflkapdnnecjaaDoorMem
import Derived.Test.YtjflkapdnnecjaaDoorFlat
import Derived.Test.YtjflkapdnnecjaaDoorRowC
import Derived.Test.YtjflkapdnnecjaaDoorPat
import Derived.Test.YtjflkapdnnecjaaDoorVLerp
import Derived.Test.YtjflkapdnnecjaaDoorGrid
import Derived.Test.YtjflkapdnnecjaaDoorPut
import Derived.WalkKit
import Derived.WalkSpells
import Derived.WalkLawsBesides
import Derived.Lib.Hide
import Derived.Deep.RegionHeld3
import Derived.Deep.QuietTactic
import Derived.BigQuiet
import Derived.Handy
import Derived.Deep.DeepCutAuto
namespace Go.Proofs.YtjflkapdnnecjaaDoor
open Go.RowKit

/-- a point of an edge: the corners' components, which edge, where -/
def edP (p q r s k i n : Int) : Int := if k = 0 then lerpP p q i n else if k = 1 then lerpP r s i n else if k = 2 then lerpP p r i n else if k = 3 then lerpP q s i n else p
theorem ed0 (p q r s i n : Int) : edP p q r s 0 i n = lerpP p q i n := by simp [edP]
theorem ed1 (p q r s i n : Int) : edP p q r s 1 i n = lerpP r s i n := by simp [edP]
theorem ed2 (p q r s i n : Int) : edP p q r s 2 i n = lerpP p r i n := by simp [edP]
theorem ed3 (p q r s i n : Int) : edP p q r s 3 i n = lerpP q s i n := by simp [edP]
theorem ed_no {k : Int} (h : ¬ (0 ≤ k ∧ k ≤ 3)) (p q r s i n : Int) : edP p q r s k i n = p := by
  unfold edP
  rw [if_neg (by omega), if_neg (by omega), if_neg (by omega), if_neg (by omega)]

set_option maxHeartbeats 4000000 in
theorem evalEdge_any (a0 a1 a2 a3 a4 a5 a6 a7 a8 x y z k i n : Int) (w : World) :
    Calls Tryd.prog 25 #[tr a0 a1 a2 a3 a4 a5 a6 a7 a8 x y z, .int .i64 k, .int .i64 i, .int .i64 n] w (VecOut (edP (cc a0) (cc a3) (cc a6) (cc x) k i n) (edP (cc a1) (cc a4) (cc a7) (cc y) k i n) (edP (cc a2) (cc a5) (cc a8) (cc z) k i n) w) := by
  have HT : Held w (((w.alloc (.cells #[.int .i64 a0, .int .i64 a1, .int .i64 a2, .int .i64 a3, .int .i64 a4, .int .i64 a5, .int .i64 a6, .int .i64 a7, .int .i64 a8, .int .i64 x, .int .i64 y, .int .i64 z] 46)).alloc (.cells #[.int .i64 0, .int .i64 0, .int .i64 0] 24)).alloc (.cells #[.int .i64 a0, .int .i64 a1, .int .i64 a2, .int .i64 a3, .int .i64 a4, .int .i64 a5, .int .i64 a6, .int .i64 a7, .int .i64 a8, .int .i64 x, .int .i64 y, .int .i64 z] 44)) [(w.heap.size + 2, [.int .i64 a0, .int .i64 a1, .int .i64 a2, .int .i64 a3, .int .i64 a4, .int .i64 a5, .int .i64 a6, .int .i64 a7, .int .i64 a8, .int .i64 x, .int .i64 y, .int .i64 z]), (w.heap.size + 1, [.int .i64 0, .int .i64 0, .int .i64 0]), (w.heap.size, [.int .i64 a0, .int .i64 a1, .int .i64 a2, .int .i64 a3, .int .i64 a4, .int .i64 a5, .int .i64 a6, .int .i64 a7, .int .i64 a8, .int .i64 x, .int .i64 y, .int .i64 z])] := by
    have h := (((Held.nil w).new #[.int .i64 a0, .int .i64 a1, .int .i64 a2, .int .i64 a3, .int .i64 a4, .int .i64 a5, .int .i64 a6, .int .i64 a7, .int .i64 a8, .int .i64 x, .int .i64 y, .int .i64 z] 46).new #[.int .i64 0, .int .i64 0, .int .i64 0] 24).new #[.int .i64 a0, .int .i64 a1, .int .i64 a2, .int .i64 a3, .int .i64 a4, .int .i64 a5, .int .i64 a6, .int .i64 a7, .int .i64 a8, .int .i64 x, .int .i64 y, .int .i64 z] 44
    simpa only [World.size_alloc] using h
  by_cases h0 : k = 0
  · subst h0
    go_enter Tryd.func25, Tryd.ntmps25
    go_wp2_with fail
    refine (lerp_any _ _ _ _ _ _ _ _ _).mono ?_
    rintro e w1 ⟨rfl, hb1⟩
    have HT := HT.later hb1
    clear hb1
    have r0 := (HT.box 1).c 0
    have r1 := (HT.box 1).c 1
    have r2 := (HT.box 1).c 2
    have g0 := (HT.box 1).f 0
    have g1 := (HT.box 1).f 1
    have g2 := (HT.box 1).f 2
    have HW := HT.below
    clear HT
    go_wp2_with fail
    exact bodyPost_ret (v := vec (lerpP (cc a0) (cc a3) i n) (lerpP (cc a1) (cc a4) i n) (lerpP (cc a2) (cc a5) i n)) (by simp [results, Tryd.results25, go_sem, r0, r1, r2]) rfl ⟨ret_vec (ed0 ..).symm (ed0 ..).symm (ed0 ..).symm, bset3 HW (by omega)⟩
  by_cases h1 : k = 1
  · subst h1
    clear h0
    go_enter Tryd.func25, Tryd.ntmps25
    go_wp2_with fail
    refine (lerp_any _ _ _ _ _ _ _ _ _).mono ?_
    rintro e w1 ⟨rfl, hb1⟩
    have HT := HT.later hb1
    clear hb1
    have r0 := (HT.box 1).c 0
    have r1 := (HT.box 1).c 1
    have r2 := (HT.box 1).c 2
    have g0 := (HT.box 1).f 0
    have g1 := (HT.box 1).f 1
    have g2 := (HT.box 1).f 2
    have HW := HT.below
    clear HT
    go_wp2_with fail
    exact bodyPost_ret (v := vec (lerpP (cc a6) (cc x) i n) (lerpP (cc a7) (cc y) i n) (lerpP (cc a8) (cc z) i n)) (by simp [results, Tryd.results25, go_sem, r0, r1, r2]) rfl ⟨ret_vec (ed1 ..).symm (ed1 ..).symm (ed1 ..).symm, bset3 HW (by omega)⟩
  by_cases h2 : k = 2
  · subst h2
    clear h0
    clear h1
    go_enter Tryd.func25, Tryd.ntmps25
    go_wp2_with fail
    refine (lerp_any _ _ _ _ _ _ _ _ _).mono ?_
    rintro e w1 ⟨rfl, hb1⟩
    have HT := HT.later hb1
    clear hb1
    have r0 := (HT.box 1).c 0
    have r1 := (HT.box 1).c 1
    have r2 := (HT.box 1).c 2
    have g0 := (HT.box 1).f 0
    have g1 := (HT.box 1).f 1
    have g2 := (HT.box 1).f 2
    have HW := HT.below
    clear HT
    go_wp2_with fail
    exact bodyPost_ret (v := vec (lerpP (cc a0) (cc a6) i n) (lerpP (cc a1) (cc a7) i n) (lerpP (cc a2) (cc a8) i n)) (by simp [results, Tryd.results25, go_sem, r0, r1, r2]) rfl ⟨ret_vec (ed2 ..).symm (ed2 ..).symm (ed2 ..).symm, bset3 HW (by omega)⟩
  by_cases h3 : k = 3
  · subst h3
    clear h0
    clear h1
    clear h2
    go_enter Tryd.func25, Tryd.ntmps25
    go_wp2_with fail
    refine (lerp_any _ _ _ _ _ _ _ _ _).mono ?_
    rintro e w1 ⟨rfl, hb1⟩
    have HT := HT.later hb1
    clear hb1
    have r0 := (HT.box 1).c 0
    have r1 := (HT.box 1).c 1
    have r2 := (HT.box 1).c 2
    have g0 := (HT.box 1).f 0
    have g1 := (HT.box 1).f 1
    have g2 := (HT.box 1).f 2
    have HW := HT.below
    clear HT
    go_wp2_with fail
    exact bodyPost_ret (v := vec (lerpP (cc a3) (cc x) i n) (lerpP (cc a4) (cc y) i n) (lerpP (cc a5) (cc z) i n)) (by simp [results, Tryd.results25, go_sem, r0, r1, r2]) rfl ⟨ret_vec (ed3 ..).symm (ed3 ..).symm (ed3 ..).symm, bset3 HW (by omega)⟩
  have HN := Lib.hid (show ¬ (0 ≤ k ∧ k ≤ 3) by omega)
  have g0 : (k == 0) = false := by simpa using h0
  have g1 : (k == 1) = false := by simpa using h1
  have g2 : (k == 2) = false := by simpa using h2
  have g3 : (k == 3) = false := by simpa using h3
  clear h0 h1 h2 h3
  go_enter Tryd.func25, Tryd.ntmps25
  go_wp2_with fail
  refine (clamped_any _ _ _ _).mono ?_
  rintro e w1 ⟨rfl, hb1⟩
  have HT := HT.later hb1
  clear hb1 g0 g1 g2 g3
  have r0 := (HT.box 1).c 0
  have r1 := (HT.box 1).c 1
  have r2 := (HT.box 1).c 2
  have g0 := (HT.box 1).f 0
  have g1 := (HT.box 1).f 1
  have g2 := (HT.box 1).f 2
  have HW := HT.below
  clear HT
  go_wp2_with fail
  exact bodyPost_ret (v := vec (cc a0) (cc a1) (cc a2)) (by simp [results, Tryd.results25, go_sem, r0, r1, r2]) rfl ⟨ret_vec (ed_no HN.out ..).symm (ed_no HN.out ..).symm (ed_no HN.out ..).symm, bset3 HW (by omega)⟩

end Go.Proofs.YtjflkapdnnecjaaDoor
