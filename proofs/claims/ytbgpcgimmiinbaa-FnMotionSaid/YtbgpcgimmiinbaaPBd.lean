/- Contracts of PatchBounds: the program and its model. -/
import Derived.Test.YtbgpcgimmiinbaaProg
import Derived.Test.YtbgpcgimmiinbaaInts
import Derived.Test.YtbgpcgimmiinbaaVbox
import Derived.Test.YtbgpcgimmiinbaaVec
import Derived.Test.YtbgpcgimmiinbaaHeld
import Derived.Test.YtbgpcgimmiinbaaArr
import Derived.Test.YtbgpcgimmiinbaaTr
import Derived.Test.YtbgpcgimmiinbaaMem
import Derived.Test.YtbgpcgimmiinbaaFlat
import Derived.Test.YtbgpcgimmiinbaaRowC
import Derived.Test.YtbgpcgimmiinbaaPat
import Derived.Test.YtbgpcgimmiinbaaBox
import Derived.Test.YtbgpcgimmiinbaaBPts
import Derived.WalkKit
import Derived.WalkSpells
import Derived.WalkLawsBesides
import Derived.Lib.Hide
import Derived.Deep.RegionHeld3
import Derived.Deep.QuietTactic
import Derived.BigQuiet
import Derived.Handy
import Derived.Deep.DeepCutAuto
namespace Go.Proofs.Ytbgpcgimmiinbaa
open Go.RowKit

theorem rowP {W : World} {b : Nat} {xs : List V3} (h : Mbox W b (xs.flatMap vg)) : RowC 3 vg W W.heap.size (some ⟨b, 0, none⟩) xs := fun hn => by
  have e : (xs.flatMap vg)[0]? = some (.int .i64 (xs[0]'hn).1) := (flat_get (g := vg) vg_len xs 0 0 hn (by omega)).trans rfl
  refine ⟨b, 0, rfl, World.block_lt_of_cell? W _ (h.c 0 e), fun k hk j v hv => ?_⟩
  have hj : j < 3 := by have := (List.getElem?_eq_some_iff.1 hv).1; rwa [vg_len] at this
  rw [Nat.zero_add]
  exact h.c (k * 3 + j) ((flat_get (g := vg) vg_len xs k j hk hj).trans hv)

set_option maxHeartbeats 4000000 in
theorem patchBounds_any (a0 a1 a2 a3 a4 a5 a6 a7 a8 x y z : Int) (w : World) :
    Calls Try.prog 17 #[tr a0 a1 a2 a3 a4 a5 a6 a7 a8 x y z] w (BoxOut (mnF cx (a0, a1, a2) [(a3, a4, a5), (a6, a7, a8), (x, y, z)]) (mnF cy (a0, a1, a2) [(a3, a4, a5), (a6, a7, a8), (x, y, z)]) (mnF cz (a0, a1, a2) [(a3, a4, a5), (a6, a7, a8), (x, y, z)]) (mxF cx (a0, a1, a2) [(a3, a4, a5), (a6, a7, a8), (x, y, z)]) (mxF cy (a0, a1, a2) [(a3, a4, a5), (a6, a7, a8), (x, y, z)]) (mxF cz (a0, a1, a2) [(a3, a4, a5), (a6, a7, a8), (x, y, z)]) w) := by
  have HT : Held w ((w.alloc (.cells #[.int .i64 a0, .int .i64 a1, .int .i64 a2, .int .i64 a3, .int .i64 a4, .int .i64 a5, .int .i64 a6, .int .i64 a7, .int .i64 a8, .int .i64 x, .int .i64 y, .int .i64 z] 40)).alloc (.cells #[.int .i64 0, .int .i64 0, .int .i64 0, .int .i64 0, .int .i64 0, .int .i64 0] 44)) [(w.heap.size + 1, [.int .i64 0, .int .i64 0, .int .i64 0, .int .i64 0, .int .i64 0, .int .i64 0]), (w.heap.size, [.int .i64 a0, .int .i64 a1, .int .i64 a2, .int .i64 a3, .int .i64 a4, .int .i64 a5, .int .i64 a6, .int .i64 a7, .int .i64 a8, .int .i64 x, .int .i64 y, .int .i64 z])] := by
    have h := ((Held.nil w).new #[.int .i64 a0, .int .i64 a1, .int .i64 a2, .int .i64 a3, .int .i64 a4, .int .i64 a5, .int .i64 a6, .int .i64 a7, .int .i64 a8, .int .i64 x, .int .i64 y, .int .i64 z] 40).new #[.int .i64 0, .int .i64 0, .int .i64 0, .int .i64 0, .int .i64 0, .int .i64 0] 44
    simpa only [World.size_alloc] using h
  obtain ⟨q0, e0⟩ : ∃ q, q = mnF cx (a0, a1, a2) [(a3, a4, a5), (a6, a7, a8), (x, y, z)] := ⟨_, rfl⟩
  obtain ⟨q1, e1⟩ : ∃ q, q = mnF cy (a0, a1, a2) [(a3, a4, a5), (a6, a7, a8), (x, y, z)] := ⟨_, rfl⟩
  obtain ⟨q2, e2⟩ : ∃ q, q = mnF cz (a0, a1, a2) [(a3, a4, a5), (a6, a7, a8), (x, y, z)] := ⟨_, rfl⟩
  obtain ⟨q3, e3⟩ : ∃ q, q = mxF cx (a0, a1, a2) [(a3, a4, a5), (a6, a7, a8), (x, y, z)] := ⟨_, rfl⟩
  obtain ⟨q4, e4⟩ : ∃ q, q = mxF cy (a0, a1, a2) [(a3, a4, a5), (a6, a7, a8), (x, y, z)] := ⟨_, rfl⟩
  obtain ⟨q5, e5⟩ : ∃ q, q = mxF cz (a0, a1, a2) [(a3, a4, a5), (a6, a7, a8), (x, y, z)] := ⟨_, rfl⟩
  have HBP : ∀ (g : Nat) (w : World), RowC 3 vg w w.heap.size (some ⟨g, 0, none⟩) [(a0, a1, a2), (a3, a4, a5), (a6, a7, a8), (x, y, z)] → Calls Try.prog 49 #[.slice (some ⟨g, 0, none⟩) 4 4] w fun e w' => e = .returned (.tuple #[box q0 q1 q2 q3 q4 q5, .bool true]) ∧ Below w.heap.size w w' := fun g w h => by
    rw [e0, e1, e2, e3, e4, e5]
    exact boundPoints_any _ 4 [(a0, a1, a2), (a3, a4, a5), (a6, a7, a8), (x, y, z)] w h (by simp) (by simp)
  rw [← e0, ← e1, ← e2, ← e3, ← e4, ← e5]
  clear e0 e1 e2 e3 e4 e5
  go_enter Try.func17, Try.ntmps17
  go_wp2_with fail
  refine (HBP _ _ (rowP (HT.box 1))).mono ?_
  rintro e w1 ⟨rfl, hb1⟩
  have HT := (HT.later hb1).new #[.int .i64 q0, .int .i64 q1, .int .i64 q2, .int .i64 q3, .int .i64 q4, .int .i64 q5] 44
  clear hb1 HBP
  go_upto_region 2 with fail
  generalize w1.alloc _ = W1 at HT ⊢
  generalize w1.heap.size = k1 at HT ⊢
  have c0 := (HT.box 0).c 0
  have c1 := (HT.box 0).c 1
  have c2 := (HT.box 0).c 2
  have c3 := (HT.box 0).c 3
  have c4 := (HT.box 0).c 4
  have c5 := (HT.box 0).c 5
  have r0 := (HT.box 1).c 0
  have r1 := (HT.box 1).c 1
  have r2 := (HT.box 1).c 2
  have r3 := (HT.box 1).c 3
  have r4 := (HT.box 1).c 4
  have r5 := (HT.box 1).c 5
  have g0 := (HT.box 1).f 0
  have g1 := (HT.box 1).f 1
  have g2 := (HT.box 1).f 2
  have g3 := (HT.box 1).f 3
  have g4 := (HT.box 1).f 4
  have g5 := (HT.box 1).f 5
  have HW := HT.below
  clear HT
  go_wp2_with fail
  exact bodyPost_ret (v := box q0 q1 q2 q3 q4 q5) (by simp [results, Try.results17, go_sem, r0, r1, r2, r3, r4, r5]) rfl ⟨rfl, bset6 HW (by omega)⟩

end Go.Proofs.Ytbgpcgimmiinbaa
