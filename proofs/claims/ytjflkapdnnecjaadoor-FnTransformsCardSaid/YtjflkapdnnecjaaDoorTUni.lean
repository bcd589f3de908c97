/- Contracts of UniformScale: the program and its model. -/
import Derived.Test.YtjflkapdnnecjaaDoorProg
import Derived.Test.YtjflkapdnnecjaaDoorInts
import Derived.Test.YtjflkapdnnecjaaDoorVbox
import Derived.Test.YtjflkapdnnecjaaDoorVec
import Derived.Test.YtjflkapdnnecjaaDoorHeld
import Derived.Test.YtjflkapdnnecjaaDoorArr
import Derived.Test.YtjflkapdnnecjaaDoorTr
import Derived.Test.YtjflkapdnnecjaaDoorTMat
import Derived.Test.YtjflkapdnnecjaaDoorTIden
import Derived.WalkKit
import Derived.WalkSpells
import Derived.WalkLawsBesides
import Derived.Lib.Hide
import Derived.Deep.RegionHeld3
import Derived.Deep.QuietTactic
import Derived.BigQuiet
import Derived.Handy
import Derived.Deep.DeepCutAuto
namespace Go.Proofs.YtjflkapdnnecjaaDoor
open Go.RowKit



set_option maxHeartbeats 2000000 in
theorem sUniformScale_in (i : Int) (w : World) (h0 : -64 ≤ i) (h1 : i ≤ 64) :
    Calls Tryd.prog 74 #[.int .i64 i] w (TrOut i 0 0 0 i 0 0 0 i 0 0 0 w) := by
  have HT : Held w (w.alloc (.cells #[.int .i64 0, .int .i64 0, .int .i64 0, .int .i64 0, .int .i64 0, .int .i64 0, .int .i64 0, .int .i64 0, .int .i64 0, .int .i64 0, .int .i64 0, .int .i64 0] 26)) [(w.heap.size, [.int .i64 0, .int .i64 0, .int .i64 0, .int .i64 0, .int .i64 0, .int .i64 0, .int .i64 0, .int .i64 0, .int .i64 0, .int .i64 0, .int .i64 0, .int .i64 0])] := by
    have h := (Held.nil w).new #[.int .i64 0, .int .i64 0, .int .i64 0, .int .i64 0, .int .i64 0, .int .i64 0, .int .i64 0, .int .i64 0, .int .i64 0, .int .i64 0, .int .i64 0, .int .i64 0] 26
    simpa only [World.size_alloc] using h
  go_enter Tryd.func74, Tryd.ntmps74
  go_wp2_with fail
  refine (sIdentity_any _).mono ?_
  rintro e w1 ⟨rfl, hb1⟩
  have hs1 := hb1.size
  simp only [World.size_alloc] at hs1
  have HT := (HT.later hb1).new #[.int .i64 16, .int .i64 0, .int .i64 0, .int .i64 0, .int .i64 16, .int .i64 0, .int .i64 0, .int .i64 0, .int .i64 16, .int .i64 0, .int .i64 0, .int .i64 0] 26
  clear hb1
  go_wp2_with fail
  refine (inV_yes _ _ _ _ h0 h1).mono ?_
  rintro e w' ⟨rfl, rfl⟩
  clear h0 h1
  generalize w1.alloc _ = W1 at HT ⊢
  generalize w1.heap.size = k1 at HT hs1 ⊢
  have HK1 := Lib.hid hs1
  clear hs1
  have c0 := (HT.box 0).c 0
  have c1 := (HT.box 0).c 1
  have c2 := (HT.box 0).c 2
  have c3 := (HT.box 0).c 3
  have c4 := (HT.box 0).c 4
  have c5 := (HT.box 0).c 5
  have c6 := (HT.box 0).c 6
  have c7 := (HT.box 0).c 7
  have c8 := (HT.box 0).c 8
  have c9 := (HT.box 0).c 9
  have c10 := (HT.box 0).c 10
  have c11 := (HT.box 0).c 11
  have f0 := (HT.box 0).f 0
  have f1 := (HT.box 0).f 1
  have f2 := (HT.box 0).f 2
  have f3 := (HT.box 0).f 3
  have f4 := (HT.box 0).f 4
  have f5 := (HT.box 0).f 5
  have f6 := (HT.box 0).f 6
  have f7 := (HT.box 0).f 7
  have f8 := (HT.box 0).f 8
  have f9 := (HT.box 0).f 9
  have f10 := (HT.box 0).f 10
  have f11 := (HT.box 0).f 11
  go_upto_region 5 with fail
  have hs := HK1.out
  have HP := HT.putM (by omega) (by simp <;> omega) (.int .i64 i) (.int .i64 0) (.int .i64 0) (.int .i64 0) (.int .i64 i) (.int .i64 0) (.int .i64 0) (.int .i64 0) (.int .i64 i)
  clear hs HT c0 c1 c2 c3 c4 c5 c6 c7 c8 c9 c10 c11 f0 f1 f2 f3 f4 f5 f6 f7 f8 f9 f10 f11
  generalize (((((((((W1.setCell ⟨k1, 0, none⟩ (.int .i64 i)).setCell ⟨k1, 1, none⟩ (.int .i64 0)).setCell ⟨k1, 2, none⟩ (.int .i64 0)).setCell ⟨k1, 3, none⟩ (.int .i64 0)).setCell ⟨k1, 4, none⟩ (.int .i64 i)).setCell ⟨k1, 5, none⟩ (.int .i64 0)).setCell ⟨k1, 6, none⟩ (.int .i64 0)).setCell ⟨k1, 7, none⟩ (.int .i64 0)).setCell ⟨k1, 8, none⟩ (.int .i64 i)) = W2 at HP ⊢
  have HT := HP
  clear HP
  have c0 := (HT.box 0).c 0
  have c1 := (HT.box 0).c 1
  have c2 := (HT.box 0).c 2
  have c3 := (HT.box 0).c 3
  have c4 := (HT.box 0).c 4
  have c5 := (HT.box 0).c 5
  have c6 := (HT.box 0).c 6
  have c7 := (HT.box 0).c 7
  have c8 := (HT.box 0).c 8
  have c9 := (HT.box 0).c 9
  have c10 := (HT.box 0).c 10
  have c11 := (HT.box 0).c 11
  have r0 := (HT.box 1).c 0
  have r1 := (HT.box 1).c 1
  have r2 := (HT.box 1).c 2
  have r3 := (HT.box 1).c 3
  have r4 := (HT.box 1).c 4
  have r5 := (HT.box 1).c 5
  have r6 := (HT.box 1).c 6
  have r7 := (HT.box 1).c 7
  have r8 := (HT.box 1).c 8
  have r9 := (HT.box 1).c 9
  have r10 := (HT.box 1).c 10
  have r11 := (HT.box 1).c 11
  have g0 := (HT.box 1).f 0
  have g1 := (HT.box 1).f 1
  have g2 := (HT.box 1).f 2
  have g3 := (HT.box 1).f 3
  have g4 := (HT.box 1).f 4
  have g5 := (HT.box 1).f 5
  have g6 := (HT.box 1).f 6
  have g7 := (HT.box 1).f 7
  have g8 := (HT.box 1).f 8
  have g9 := (HT.box 1).f 9
  have g10 := (HT.box 1).f 10
  have g11 := (HT.box 1).f 11
  have HW := HT.below
  clear HT
  go_wp2_with fail
  exact bodyPost_ret (v := tr i 0 0 0 i 0 0 0 i 0 0 0) (by simp [results, Tryd.results74, go_sem, r0, r1, r2, r3, r4, r5, r6, r7, r8, r9, r10, r11]) rfl ⟨rfl, bset_far12 HW (by omega)⟩

set_option maxHeartbeats 2000000 in
theorem sUniformScale_out (i : Int) (w : World) (hn : ¬ (-64 ≤ i ∧ i ≤ 64)) :
    Calls Tryd.prog 74 #[.int .i64 i] w (TrOut 16 0 0 0 16 0 0 0 16 0 0 0 w) := by
  have HT : Held w (w.alloc (.cells #[.int .i64 0, .int .i64 0, .int .i64 0, .int .i64 0, .int .i64 0, .int .i64 0, .int .i64 0, .int .i64 0, .int .i64 0, .int .i64 0, .int .i64 0, .int .i64 0] 26)) [(w.heap.size, [.int .i64 0, .int .i64 0, .int .i64 0, .int .i64 0, .int .i64 0, .int .i64 0, .int .i64 0, .int .i64 0, .int .i64 0, .int .i64 0, .int .i64 0, .int .i64 0])] := by
    have h := (Held.nil w).new #[.int .i64 0, .int .i64 0, .int .i64 0, .int .i64 0, .int .i64 0, .int .i64 0, .int .i64 0, .int .i64 0, .int .i64 0, .int .i64 0, .int .i64 0, .int .i64 0] 26
    simpa only [World.size_alloc] using h
  go_enter Tryd.func74, Tryd.ntmps74
  go_wp2_with fail
  refine (sIdentity_any _).mono ?_
  rintro e w1 ⟨rfl, hb1⟩
  have hs1 := hb1.size
  simp only [World.size_alloc] at hs1
  have HT := (HT.later hb1).new #[.int .i64 16, .int .i64 0, .int .i64 0, .int .i64 0, .int .i64 16, .int .i64 0, .int .i64 0, .int .i64 0, .int .i64 16, .int .i64 0, .int .i64 0, .int .i64 0] 26
  clear hb1
  go_wp2_with fail
  refine (inV_no _ _ _ _ hn).mono ?_
  rintro e w' ⟨rfl, rfl⟩
  clear hn
  generalize w1.alloc _ = W1 at HT ⊢
  generalize w1.heap.size = k1 at HT hs1 ⊢
  have HK1 := Lib.hid hs1
  clear hs1
  have c0 := (HT.box 0).c 0
  have c1 := (HT.box 0).c 1
  have c2 := (HT.box 0).c 2
  have c3 := (HT.box 0).c 3
  have c4 := (HT.box 0).c 4
  have c5 := (HT.box 0).c 5
  have c6 := (HT.box 0).c 6
  have c7 := (HT.box 0).c 7
  have c8 := (HT.box 0).c 8
  have c9 := (HT.box 0).c 9
  have c10 := (HT.box 0).c 10
  have c11 := (HT.box 0).c 11
  have r0 := (HT.box 1).c 0
  have r1 := (HT.box 1).c 1
  have r2 := (HT.box 1).c 2
  have r3 := (HT.box 1).c 3
  have r4 := (HT.box 1).c 4
  have r5 := (HT.box 1).c 5
  have r6 := (HT.box 1).c 6
  have r7 := (HT.box 1).c 7
  have r8 := (HT.box 1).c 8
  have r9 := (HT.box 1).c 9
  have r10 := (HT.box 1).c 10
  have r11 := (HT.box 1).c 11
  have g0 := (HT.box 1).f 0
  have g1 := (HT.box 1).f 1
  have g2 := (HT.box 1).f 2
  have g3 := (HT.box 1).f 3
  have g4 := (HT.box 1).f 4
  have g5 := (HT.box 1).f 5
  have g6 := (HT.box 1).f 6
  have g7 := (HT.box 1).f 7
  have g8 := (HT.box 1).f 8
  have g9 := (HT.box 1).f 9
  have g10 := (HT.box 1).f 10
  have g11 := (HT.box 1).f 11
  have HW := HT.below
  clear HT
  go_wp2_with fail
  exact bodyPost_ret (v := tr 16 0 0 0 16 0 0 0 16 0 0 0) (by simp [results, Tryd.results74, go_sem, r0, r1, r2, r3, r4, r5, r6, r7, r8, r9, r10, r11]) rfl ⟨rfl, bset_far12 HW (by omega)⟩
end Go.Proofs.YtjflkapdnnecjaaDoor
