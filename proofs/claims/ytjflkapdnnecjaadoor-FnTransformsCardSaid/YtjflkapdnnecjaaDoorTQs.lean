/- Contracts of QuarterTurn: the model. -/
import Derived.Test.YtjflkapdnnecjaaDoorProg
import Derived.Test.YtjflkapdnnecjaaDoorInts
import Derived.Test.YtjflkapdnnecjaaDoorVbox
import Derived.Test.YtjflkapdnnecjaaDoorVec
import Derived.Test.YtjflkapdnnecjaaDoorHeld
import Derived.Test.YtjflkapdnnecjaaDoorArr
import Derived.Test.YtjflkapdnnecjaaDoorTr
import Derived.Test.YtjflkapdnnecjaaDoorTMat
import Derived.Test.YtjflkapdnnecjaaDoorTIden
import Derived.Test.YtjflkapdnnecjaaDoorTQm
import Derived.WalkKit
import Derived.WalkSpells
import Derived.WalkLawsBesides
import Derived.Lib.Hide
import Derived.Deep.RegionHeld3
import Derived.Deep.QuietTactic
import Derived.BigQuiet
import Derived.Handy
import Derived.Deep.DeepCutAuto
namespace Go.Proofs.YtjflkapdnnecjaaDoor
open Go.RowKit
/-- the matrix of j quarter turns about an axis -/
def qtL : Nat → Nat → List Int
  | 0, 0 => [16, 0, 0, 0, 16, 0, 0, 0, 16]
  | 0, 1 => [16, 0, 0, 0, 0, (-16), 0, 16, 0]
  | 0, 2 => [16, 0, 0, 0, (-16), 0, 0, 0, (-16)]
  | 0, 3 => [16, 0, 0, 0, 0, 16, 0, (-16), 0]
  | 1, 0 => [16, 0, 0, 0, 16, 0, 0, 0, 16]
  | 1, 1 => [0, 0, 16, 0, 16, 0, (-16), 0, 0]
  | 1, 2 => [(-16), 0, 0, 0, 16, 0, 0, 0, (-16)]
  | 1, 3 => [0, 0, (-16), 0, 16, 0, 16, 0, 0]
  | 2, 0 => [16, 0, 0, 0, 16, 0, 0, 0, 16]
  | 2, 1 => [0, (-16), 0, 16, 0, 0, 0, 0, 16]
  | 2, 2 => [(-16), 0, 0, 0, (-16), 0, 0, 0, 16]
  | 2, 3 => [0, 16, 0, (-16), 0, 0, 0, 0, 16]
  | _, _ => [16, 0, 0, 0, 16, 0, 0, 0, 16]
def QtOut (a j : Nat) (w : World) (e : Ending) (w' : World) : Prop := e = .returned (.agg (ints (qtL a j ++ [0, 0, 0])).toArray) ∧ Below w.heap.size w w'

theorem mulQ_0_0 (w : World) : Calls Tryd.prog 94 #[mat 16 0 0 0 0 (-16) 0 16 0, mat 16 0 0 0 16 0 0 0 16] w (MatOut 16 0 0 0 0 (-16) 0 16 0 w) :=
  l04Mul_any 16 0 0 0 0 (-16) 0 16 0 16 0 0 0 16 0 0 0 16 w (by omega) (by omega) (by omega) (by omega) (by omega) (by omega) (by omega) (by omega) (by omega) (by omega) (by omega) (by omega) (by omega) (by omega) (by omega) (by omega) (by omega) (by omega)

theorem mulQ_0_1 (w : World) : Calls Tryd.prog 94 #[mat 16 0 0 0 0 (-16) 0 16 0, mat 16 0 0 0 0 (-16) 0 16 0] w (MatOut 16 0 0 0 (-16) 0 0 0 (-16) w) :=
  l04Mul_any 16 0 0 0 0 (-16) 0 16 0 16 0 0 0 0 (-16) 0 16 0 w (by omega) (by omega) (by omega) (by omega) (by omega) (by omega) (by omega) (by omega) (by omega) (by omega) (by omega) (by omega) (by omega) (by omega) (by omega) (by omega) (by omega) (by omega)

theorem mulQ_0_2 (w : World) : Calls Tryd.prog 94 #[mat 16 0 0 0 0 (-16) 0 16 0, mat 16 0 0 0 (-16) 0 0 0 (-16)] w (MatOut 16 0 0 0 0 16 0 (-16) 0 w) :=
  l04Mul_any 16 0 0 0 0 (-16) 0 16 0 16 0 0 0 (-16) 0 0 0 (-16) w (by omega) (by omega) (by omega) (by omega) (by omega) (by omega) (by omega) (by omega) (by omega) (by omega) (by omega) (by omega) (by omega) (by omega) (by omega) (by omega) (by omega) (by omega)

theorem mulQ_1_0 (w : World) : Calls Tryd.prog 94 #[mat 0 0 16 0 16 0 (-16) 0 0, mat 16 0 0 0 16 0 0 0 16] w (MatOut 0 0 16 0 16 0 (-16) 0 0 w) :=
  l04Mul_any 0 0 16 0 16 0 (-16) 0 0 16 0 0 0 16 0 0 0 16 w (by omega) (by omega) (by omega) (by omega) (by omega) (by omega) (by omega) (by omega) (by omega) (by omega) (by omega) (by omega) (by omega) (by omega) (by omega) (by omega) (by omega) (by omega)

theorem mulQ_1_1 (w : World) : Calls Tryd.prog 94 #[mat 0 0 16 0 16 0 (-16) 0 0, mat 0 0 16 0 16 0 (-16) 0 0] w (MatOut (-16) 0 0 0 16 0 0 0 (-16) w) :=
  l04Mul_any 0 0 16 0 16 0 (-16) 0 0 0 0 16 0 16 0 (-16) 0 0 w (by omega) (by omega) (by omega) (by omega) (by omega) (by omega) (by omega) (by omega) (by omega) (by omega) (by omega) (by omega) (by omega) (by omega) (by omega) (by omega) (by omega) (by omega)

theorem mulQ_1_2 (w : World) : Calls Tryd.prog 94 #[mat 0 0 16 0 16 0 (-16) 0 0, mat (-16) 0 0 0 16 0 0 0 (-16)] w (MatOut 0 0 (-16) 0 16 0 16 0 0 w) :=
  l04Mul_any 0 0 16 0 16 0 (-16) 0 0 (-16) 0 0 0 16 0 0 0 (-16) w (by omega) (by omega) (by omega) (by omega) (by omega) (by omega) (by omega) (by omega) (by omega) (by omega) (by omega) (by omega) (by omega) (by omega) (by omega) (by omega) (by omega) (by omega)

theorem mulQ_2_0 (w : World) : Calls Tryd.prog 94 #[mat 0 (-16) 0 16 0 0 0 0 16, mat 16 0 0 0 16 0 0 0 16] w (MatOut 0 (-16) 0 16 0 0 0 0 16 w) :=
  l04Mul_any 0 (-16) 0 16 0 0 0 0 16 16 0 0 0 16 0 0 0 16 w (by omega) (by omega) (by omega) (by omega) (by omega) (by omega) (by omega) (by omega) (by omega) (by omega) (by omega) (by omega) (by omega) (by omega) (by omega) (by omega) (by omega) (by omega)

theorem mulQ_2_1 (w : World) : Calls Tryd.prog 94 #[mat 0 (-16) 0 16 0 0 0 0 16, mat 0 (-16) 0 16 0 0 0 0 16] w (MatOut (-16) 0 0 0 (-16) 0 0 0 16 w) :=
  l04Mul_any 0 (-16) 0 16 0 0 0 0 16 0 (-16) 0 16 0 0 0 0 16 w (by omega) (by omega) (by omega) (by omega) (by omega) (by omega) (by omega) (by omega) (by omega) (by omega) (by omega) (by omega) (by omega) (by omega) (by omega) (by omega) (by omega) (by omega)

theorem mulQ_2_2 (w : World) : Calls Tryd.prog 94 #[mat 0 (-16) 0 16 0 0 0 0 16, mat (-16) 0 0 0 (-16) 0 0 0 16] w (MatOut 0 16 0 (-16) 0 0 0 0 16 w) :=
  l04Mul_any 0 (-16) 0 16 0 0 0 0 16 (-16) 0 0 0 (-16) 0 0 0 16 w (by omega) (by omega) (by omega) (by omega) (by omega) (by omega) (by omega) (by omega) (by omega) (by omega) (by omega) (by omega) (by omega) (by omega) (by omega) (by omega) (by omega) (by omega)

set_option maxHeartbeats 2000000 in
theorem sQuarter_out (a k : Int) (w : World) (hn : ¬ (0 ≤ a ∧ a ≤ 2)) :
    Calls Tryd.prog 73 #[.int .i64 a, .int .i64 k] w (TrOut 16 0 0 0 16 0 0 0 16 0 0 0 w) := by
  have HT : Held w (w.alloc (.cells #[.int .i64 0, .int .i64 0, .int .i64 0, .int .i64 0, .int .i64 0, .int .i64 0, .int .i64 0, .int .i64 0, .int .i64 0, .int .i64 0, .int .i64 0, .int .i64 0] 26)) [(w.heap.size, [.int .i64 0, .int .i64 0, .int .i64 0, .int .i64 0, .int .i64 0, .int .i64 0, .int .i64 0, .int .i64 0, .int .i64 0, .int .i64 0, .int .i64 0, .int .i64 0])] := by
    have h := (Held.nil w).new #[.int .i64 0, .int .i64 0, .int .i64 0, .int .i64 0, .int .i64 0, .int .i64 0, .int .i64 0, .int .i64 0, .int .i64 0, .int .i64 0, .int .i64 0, .int .i64 0] 26
    simpa only [World.size_alloc] using h
  go_enter Tryd.func73, Tryd.ntmps73
  go_wp2_with fail
  refine (sIdentity_any _).mono ?_
  rintro e w1 ⟨rfl, hb1⟩
  have hs1 := hb1.size
  simp only [World.size_alloc] at hs1
  have HT := (HT.later hb1).new #[.int .i64 16, .int .i64 0, .int .i64 0, .int .i64 0, .int .i64 16, .int .i64 0, .int .i64 0, .int .i64 0, .int .i64 16, .int .i64 0, .int .i64 0, .int .i64 0] 26
  clear hb1
  go_wp2_with fail
  refine (inV_no _ _ _ _ hn).mono ?_
  rintro e w' ⟨rfl, rfl⟩
  clear hn
  generalize w1.alloc _ = W1 at HT ⊢
  generalize w1.heap.size = k1 at HT hs1 ⊢
  have HK1 := Lib.hid hs1
  clear hs1
  have c0 := (HT.box 0).c 0
  have c1 := (HT.box 0).c 1
  have c2 := (HT.box 0).c 2
  have c3 := (HT.box 0).c 3
  have c4 := (HT.box 0).c 4
  have c5 := (HT.box 0).c 5
  have c6 := (HT.box 0).c 6
  have c7 := (HT.box 0).c 7
  have c8 := (HT.box 0).c 8
  have c9 := (HT.box 0).c 9
  have c10 := (HT.box 0).c 10
  have c11 := (HT.box 0).c 11
  have r0 := (HT.box 1).c 0
  have r1 := (HT.box 1).c 1
  have r2 := (HT.box 1).c 2
  have r3 := (HT.box 1).c 3
  have r4 := (HT.box 1).c 4
  have r5 := (HT.box 1).c 5
  have r6 := (HT.box 1).c 6
  have r7 := (HT.box 1).c 7
  have r8 := (HT.box 1).c 8
  have r9 := (HT.box 1).c 9
  have r10 := (HT.box 1).c 10
  have r11 := (HT.box 1).c 11
  have g0 := (HT.box 1).f 0
  have g1 := (HT.box 1).f 1
  have g2 := (HT.box 1).f 2
  have g3 := (HT.box 1).f 3
  have g4 := (HT.box 1).f 4
  have g5 := (HT.box 1).f 5
  have g6 := (HT.box 1).f 6
  have g7 := (HT.box 1).f 7
  have g8 := (HT.box 1).f 8
  have g9 := (HT.box 1).f 9
  have g10 := (HT.box 1).f 10
  have g11 := (HT.box 1).f 11
  have HW := HT.below
  clear HT
  clear HK1
  go_wp2_with fail
  exact bodyPost_ret (v := tr 16 0 0 0 16 0 0 0 16 0 0 0) (by simp [results, Tryd.results73, go_sem, r0, r1, r2, r3, r4, r5, r6, r7, r8, r9, r10, r11]) rfl ⟨rfl, bset_far12 HW (by omega)⟩
end Go.Proofs.YtjflkapdnnecjaaDoor
