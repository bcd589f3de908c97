/- What the law on patches asks: contracts with named answers. -/
import Derived.Test.YtjflkapdnnecjaaDoorProg
import Derived.Test.YtjflkapdnnecjaaDoorInts
import Derived.Test.YtjflkapdnnecjaaDoorVbox
import Derived.Test.YtjflkapdnnecjaaDoorVec
import Derived.Test.YtjflkapdnnecjaaDoorHeld
import Derived.Test.YtjflkapdnnecjaaDoorArr
import Derived.Test.YtjflkapdnnecjaaDoorTr
import Derived.Test.YtjflkapdnnecjaaDoorMem
import Derived.Test.YtjflkapdnnecjaaDoorFlat
import Derived.Test.YtjflkapdnnecjaaDoorRowC
import Derived.Test.YtjflkapdnnecjaaDoorPat
import Derived.Test.YtjflkapdnnecjaaDoorPVal
import Derived.Test.YtjflkapdnnecjaaDoorGrid
import Derived.Test.YtjflkapdnnecjaaDoorPut
import Derived.Test.YtjflkapdnnecjaaDoorPEv
import Derived.Test.YtjflkapdnnecjaaDoorVLerp
import Derived.Test.YtjflkapdnnecjaaDoorPEdge
import Derived.Test.YtjflkapdnnecjaaDoorBox
import Derived.Test.YtjflkapdnnecjaaDoorBUnion
import Derived.Test.YtjflkapdnnecjaaDoorBPts
import Derived.Test.YtjflkapdnnecjaaDoorBCont
import Derived.Test.YtjflkapdnnecjaaDoorPBd
import Derived.WalkKit
import Derived.WalkSpells
import Derived.WalkLawsBesides
import Derived.Lib.Hide
import Derived.Deep.RegionHeld3
import Derived.Deep.QuietTactic
import Derived.BigQuiet
import Derived.Handy
import Derived.Deep.DeepCutAuto
namespace Go.Proofs.YtjflkapdnnecjaaDoor
open Go.RowKit

theorem mn4 (a b c d : Int) : mnP (mnP (mnP a b) c) d ≤ a ∧ mnP (mnP (mnP a b) c) d ≤ b ∧ mnP (mnP (mnP a b) c) d ≤ c ∧ mnP (mnP (mnP a b) c) d ≤ d := by
  unfold mnP; split <;> split <;> split <;> omega
theorem mx4 (a b c d : Int) : a ≤ mxP (mxP (mxP a b) c) d ∧ b ≤ mxP (mxP (mxP a b) c) d ∧ c ≤ mxP (mxP (mxP a b) c) d ∧ d ≤ mxP (mxP (mxP a b) c) d := by
  unfold mxP; split <;> split <;> split <;> omega
theorem ev_in (f : V3 → Int) (v0 v1 v2 v3 : V3) {i j n : Int} (h : (1 ≤ n ∧ n ≤ 64) ∧ (0 ≤ i ∧ i ≤ n) ∧ 0 ≤ j ∧ j ≤ n) :
    mnF f v0 [v1, v2, v3] ≤ evP (cc (f v0)) (cc (f v1)) (cc (f v2)) (cc (f v3)) i j n ∧ evP (cc (f v0)) (cc (f v1)) (cc (f v2)) (cc (f v3)) i j n ≤ mxF f v0 [v1, v2, v3] := by
  rw [ev_yes h]
  have h1 := mn4 (cc (f v0)) (cc (f v1)) (cc (f v2)) (cc (f v3))
  have h2 := mx4 (cc (f v0)) (cc (f v1)) (cc (f v2)) (cc (f v3))
  have e1 : mnF f v0 [v1, v2, v3] = mnP (mnP (mnP (cc (f v0)) (cc (f v1))) (cc (f v2))) (cc (f v3)) := rfl
  have e2 : mxF f v0 [v1, v2, v3] = mxP (mxP (mxP (cc (f v0)) (cc (f v1))) (cc (f v2))) (cc (f v3)) := rfl
  rw [e1, e2]
  exact grid_bd h.1.1 h.2.1 h.2.2 ⟨h1.1, h2.1⟩ ⟨h1.2.1, h2.2.1⟩ ⟨h1.2.2.1, h2.2.2.1⟩ ⟨h1.2.2.2, h2.2.2.2⟩
theorem ev_fine (p q r s : Int) {i j n : Int} (hn : 1 ≤ n ∧ n ≤ 8) (hi : 0 ≤ i ∧ i ≤ n) (hj : 0 ≤ j ∧ j ≤ n) : evP p q r s (2 * i) (2 * j) (2 * n) = evP p q r s i j n := by
  rw [ev_yes (by omega), ev_yes (by omega), grid_fine _ _ _ _ _ _ _ hn.1]
theorem ev_e0 (p q r s : Int) {i n : Int} (hn : 1 ≤ n ∧ n ≤ 8) (hi : 0 ≤ i ∧ i ≤ n) : evP p q r s i 0 n = edP p q r s 0 i n := by
  rw [ev_yes (by omega), ed0, grid_edge0 _ _ r s _ _ (by omega)]
theorem ev_e3 (p q r s : Int) {j n : Int} (hn : 1 ≤ n ∧ n ≤ 8) (hj : 0 ≤ j ∧ j ≤ n) : evP p q r s n j n = edP p q r s 3 j n := by
  rw [ev_yes (by omega), ed3, grid_edge3 p _ r _ _ _ (by omega)]
set_option maxHeartbeats 2000000 in
theorem patch_law (a0 a1 a2 a3 a4 a5 a6 a7 a8 x y z i j n : Int) (hn : 1 ≤ n ∧ n ≤ 8) (hi : 0 ≤ i ∧ i ≤ n) (hj : 0 ≤ j ∧ j ≤ n) : ∃ d0 d1 d2 f0 f1 f2 g0 g1 g2 q0 q1 q2 q3 q4 q5 : Int,
    (∀ w : World, Calls Tryd.prog 20 #[tr a0 a1 a2 a3 a4 a5 a6 a7 a8 x y z, .int .i64 i, .int .i64 j, .int .i64 n] w (VecOut d0 d1 d2 w)) ∧
    (∀ w : World, Calls Tryd.prog 20 #[tr a0 a1 a2 a3 a4 a5 a6 a7 a8 x y z, .int .i64 (2 * i), .int .i64 (2 * j), .int .i64 (2 * n)] w (VecOut d0 d1 d2 w)) ∧
    (∀ w : World, Calls Tryd.prog 24 #[tr a0 a1 a2 a3 a4 a5 a6 a7 a8 x y z] w (BoxOut q0 q1 q2 q3 q4 q5 w)) ∧
    (∀ w : World, Calls Tryd.prog 23 #[box q0 q1 q2 q3 q4 q5, vec d0 d1 d2] w (BoolOut2 true w)) ∧
    (∀ w : World, Calls Tryd.prog 25 #[tr a0 a1 a2 a3 a4 a5 a6 a7 a8 x y z, .int .i64 0, .int .i64 i, .int .i64 n] w (VecOut f0 f1 f2 w)) ∧
    (∀ w : World, Calls Tryd.prog 20 #[tr a0 a1 a2 a3 a4 a5 a6 a7 a8 x y z, .int .i64 i, .int .i64 0, .int .i64 n] w (VecOut f0 f1 f2 w)) ∧
    (∀ w : World, Calls Tryd.prog 25 #[tr a0 a1 a2 a3 a4 a5 a6 a7 a8 x y z, .int .i64 3, .int .i64 j, .int .i64 n] w (VecOut g0 g1 g2 w)) ∧
    (∀ w : World, Calls Tryd.prog 20 #[tr a0 a1 a2 a3 a4 a5 a6 a7 a8 x y z, .int .i64 n, .int .i64 j, .int .i64 n] w (VecOut g0 g1 g2 w)) := by
  have h0 : (1 ≤ n ∧ n ≤ 64) ∧ (0 ≤ i ∧ i ≤ n) ∧ 0 ≤ j ∧ j ≤ n := by omega
  have b0 := ev_in cx (a0, a1, a2) (a3, a4, a5) (a6, a7, a8) (x, y, z) h0
  have b1 := ev_in cy (a0, a1, a2) (a3, a4, a5) (a6, a7, a8) (x, y, z) h0
  have b2 := ev_in cz (a0, a1, a2) (a3, a4, a5) (a6, a7, a8) (x, y, z) h0
  refine ⟨evP (cc a0) (cc a3) (cc a6) (cc x) i j n, evP (cc a1) (cc a4) (cc a7) (cc y) i j n, evP (cc a2) (cc a5) (cc a8) (cc z) i j n, edP (cc a0) (cc a3) (cc a6) (cc x) 0 i n, edP (cc a1) (cc a4) (cc a7) (cc y) 0 i n, edP (cc a2) (cc a5) (cc a8) (cc z) 0 i n, edP (cc a0) (cc a3) (cc a6) (cc x) 3 j n, edP (cc a1) (cc a4) (cc a7) (cc y) 3 j n, edP (cc a2) (cc a5) (cc a8) (cc z) 3 j n, mnF cx (a0, a1, a2) [(a3, a4, a5), (a6, a7, a8), (x, y, z)], mnF cy (a0, a1, a2) [(a3, a4, a5), (a6, a7, a8), (x, y, z)], mnF cz (a0, a1, a2) [(a3, a4, a5), (a6, a7, a8), (x, y, z)], mxF cx (a0, a1, a2) [(a3, a4, a5), (a6, a7, a8), (x, y, z)], mxF cy (a0, a1, a2) [(a3, a4, a5), (a6, a7, a8), (x, y, z)], mxF cz (a0, a1, a2) [(a3, a4, a5), (a6, a7, a8), (x, y, z)], ?_, ?_, ?_, ?_, ?_, ?_, ?_, ?_⟩
  · exact fun w => evalPatch_any a0 a1 a2 a3 a4 a5 a6 a7 a8 x y z i j n w
  · intro w
    rw [← ev_fine _ _ _ _ hn hi hj, ← ev_fine _ _ _ _ hn hi hj, ← ev_fine _ _ _ _ hn hi hj]
    exact evalPatch_any a0 a1 a2 a3 a4 a5 a6 a7 a8 x y z (2 * i) (2 * j) (2 * n) w
  · exact fun w => patchBounds_any a0 a1 a2 a3 a4 a5 a6 a7 a8 x y z w
  · intro w
    refine (boxContains_any _ _ _ _ _ _ _ _ _ w).mono ?_
    rintro e w' ⟨rfl, hb⟩
    refine ⟨ret_bool ((inB_iff ..).2 ⟨⟨b0.1, b0.2⟩, ⟨b1.1, b1.2⟩, b2.1, b2.2⟩), hb⟩
  · exact fun w => evalEdge_any a0 a1 a2 a3 a4 a5 a6 a7 a8 x y z 0 i n w
  · intro w
    rw [← ev_e0 _ _ _ _ hn hi, ← ev_e0 _ _ _ _ hn hi, ← ev_e0 _ _ _ _ hn hi]
    exact evalPatch_any a0 a1 a2 a3 a4 a5 a6 a7 a8 x y z i 0 n w
  · exact fun w => evalEdge_any a0 a1 a2 a3 a4 a5 a6 a7 a8 x y z 3 j n w
  · intro w
    rw [← ev_e3 _ _ _ _ hn hj, ← ev_e3 _ _ _ _ hn hj, ← ev_e3 _ _ _ _ hn hj]
    exact evalPatch_any a0 a1 a2 a3 a4 a5 a6 a7 a8 x y z n j n w
theorem small_okP {ps : List V3} (h : ∀ v ∈ ps, (-1000 ≤ v.1 ∧ v.1 ≤ 1000) ∧ (-1000 ≤ v.2.1 ∧ v.2.1 ≤ 1000) ∧ (-1000 ≤ v.2.2 ∧ v.2.2 ≤ 1000)) : okP ps = true := List.all_eq_true.2 fun v hv => by
  have := h v hv
  exact (okB_iff ..).2 ⟨by omega, by omega, by omega⟩
theorem veq_selfQ (a b c : Int) (w : World) : (binOp .eql 24 (vec a b c) (vec a b c)).run Tryd.prog w = .ok (.bool true) w := by
  rw [veq_run]; simp [veqB]
theorem pat_selfQ (a0 a1 a2 a3 a4 a5 a6 a7 a8 x y z : Int) (w : World) : (binOp .eql 46 (tr a0 a1 a2 a3 a4 a5 a6 a7 a8 x y z) (tr a0 a1 a2 a3 a4 a5 a6 a7 a8 x y z)).run Tryd.prog w = .ok (.bool true) w := by
  rw [eql_patB]; simp
theorem veq_selfI (a b c : Int) (w : World) : (Op.equalIn 10000 24 (vec a b c) (vec a b c)).run Tryd.prog w = .ok true w := by
  rw [veq_in]; simp [veqB]
theorem pat_selfI (a0 a1 a2 a3 a4 a5 a6 a7 a8 x y z : Int) (w : World) : (Op.equalIn 10000 46 (tr a0 a1 a2 a3 a4 a5 a6 a7 a8 x y z) (tr a0 a1 a2 a3 a4 a5 a6 a7 a8 x y z)).run Tryd.prog w = .ok true w := by
  rw [eql_pat]; simp
end Go.Proofs.YtjflkapdnnecjaaDoor
