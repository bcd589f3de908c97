/- Contracts of Identity, UniformScale, Translation: the program and its model. -/
import Derived.Test.YtjflkapdnnecjaaDoorProg
import Derived.Test.YtjflkapdnnecjaaDoorInts
import Derived.Test.YtjflkapdnnecjaaDoorVbox
import Derived.Test.YtjflkapdnnecjaaDoorVec
import Derived.Test.YtjflkapdnnecjaaDoorHeld
import Derived.Test.YtjflkapdnnecjaaDoorArr
import Derived.Test.YtjflkapdnnecjaaDoorTr
import Derived.Test.YtjflkapdnnecjaaDoorTMat
import Derived.WalkKit
import Derived.WalkSpells
import Derived.WalkLawsBesides
import Derived.Lib.Hide
import Derived.Deep.RegionHeld3
import Derived.Deep.QuietTactic
import Derived.BigQuiet
import Derived.Handy
import Derived.Deep.DeepCutAuto
namespace Go.Proofs.YtjflkapdnnecjaaDoor
open Go.RowKit

set_option maxHeartbeats 2000000 in
theorem diagonal_any (i : Int) (w : World) :
    Calls Tryd.prog 50 #[.int .i64 i] w (MatOut i 0 0 0 i 0 0 0 i w) := by
  go_enter Tryd.func50, Tryd.ntmps50
  go_wp2_with fail
  exact bodyPost_ret (v := mat i 0 0 0 i 0 0 0 i) (by simp [results, Tryd.results50, go_sem]) rfl ⟨rfl, by go_grown⟩

set_option maxHeartbeats 2000000 in
theorem identity_any (w : World) :
    Calls Tryd.prog 18 #[] w (TrOut 16 0 0 0 16 0 0 0 16 0 0 0 w) := by
  have HT : Held w (w.alloc (.cells #[.int .i64 0, .int .i64 0, .int .i64 0, .int .i64 0, .int .i64 0, .int .i64 0, .int .i64 0, .int .i64 0, .int .i64 0, .int .i64 0, .int .i64 0, .int .i64 0] 26)) [(w.heap.size, [.int .i64 0, .int .i64 0, .int .i64 0, .int .i64 0, .int .i64 0, .int .i64 0, .int .i64 0, .int .i64 0, .int .i64 0, .int .i64 0, .int .i64 0, .int .i64 0])] := by
    have h := (Held.nil w).new #[.int .i64 0, .int .i64 0, .int .i64 0, .int .i64 0, .int .i64 0, .int .i64 0, .int .i64 0, .int .i64 0, .int .i64 0, .int .i64 0, .int .i64 0, .int .i64 0] 26
    simpa only [World.size_alloc] using h
  go_enter Tryd.func18, Tryd.ntmps18
  go_wp2_with fail
  refine (diagonal_any _ _).mono ?_
  rintro e w1 ⟨rfl, hb1⟩
  have HT := (HT.later hb1)
  clear hb1
  have r0 := (HT.box 0).c 0
  have r1 := (HT.box 0).c 1
  have r2 := (HT.box 0).c 2
  have r3 := (HT.box 0).c 3
  have r4 := (HT.box 0).c 4
  have r5 := (HT.box 0).c 5
  have r6 := (HT.box 0).c 6
  have r7 := (HT.box 0).c 7
  have r8 := (HT.box 0).c 8
  have r9 := (HT.box 0).c 9
  have r10 := (HT.box 0).c 10
  have r11 := (HT.box 0).c 11
  have g0 := (HT.box 0).f 0
  have g1 := (HT.box 0).f 1
  have g2 := (HT.box 0).f 2
  have g3 := (HT.box 0).f 3
  have g4 := (HT.box 0).f 4
  have g5 := (HT.box 0).f 5
  have g6 := (HT.box 0).f 6
  have g7 := (HT.box 0).f 7
  have g8 := (HT.box 0).f 8
  have g9 := (HT.box 0).f 9
  have g10 := (HT.box 0).f 10
  have g11 := (HT.box 0).f 11
  have HW := HT.below
  clear HT
  go_wp2_with fail
  exact bodyPost_ret (v := tr 16 0 0 0 16 0 0 0 16 0 0 0) (by simp [results, Tryd.results18, go_sem, r0, r1, r2, r3, r4, r5, r6, r7, r8, r9, r10, r11]) rfl ⟨rfl, bset_far12 HW (by omega)⟩

set_option maxHeartbeats 2000000 in
theorem sIdentity_any (w : World) :
    Calls Tryd.prog 76 #[] w (TrOut 16 0 0 0 16 0 0 0 16 0 0 0 w) := by
  go_enter Tryd.func76, Tryd.ntmps76
  go_wp2_with fail
  exact bodyPost_ret (v := tr 16 0 0 0 16 0 0 0 16 0 0 0) (by simp [results, Tryd.results76, go_sem]) rfl ⟨rfl, by go_grown⟩
end Go.Proofs.YtjflkapdnnecjaaDoor
