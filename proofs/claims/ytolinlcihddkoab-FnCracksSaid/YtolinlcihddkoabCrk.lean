/- What the law on cracks asks: the points of a common edge. -/
import Derived.Test.YtolinlcihddkoabProg
import Derived.Test.YtolinlcihddkoabInts
import Derived.Test.YtolinlcihddkoabVbox
import Derived.Test.YtolinlcihddkoabVec
import Derived.Test.YtolinlcihddkoabHeld
import Derived.Test.YtolinlcihddkoabMem
import Derived.Test.YtolinlcihddkoabFlat
import Derived.Test.YtolinlcihddkoabRowC
import Derived.Test.YtolinlcihddkoabArr
import Derived.Test.YtolinlcihddkoabTr
import Derived.Test.YtolinlcihddkoabPat
import Derived.Test.YtolinlcihddkoabPVal
import Derived.Test.YtolinlcihddkoabGrid
import Derived.Test.YtolinlcihddkoabPut
import Derived.Test.YtolinlcihddkoabPEv
import Derived.Test.YtolinlcihddkoabSub
import Derived.Test.YtolinlcihddkoabCam
import Derived.Test.YtolinlcihddkoabCPrj
import Derived.Test.YtolinlcihddkoabVDraw
import Derived.Test.YtolinlcihddkoabPDraw
import Derived.Test.YtolinlcihddkoabDv
import Derived.WalkKit
import Derived.WalkSpells
import Derived.WalkLawsBesides
import Derived.Lib.Hide
import Derived.Handy
import Derived.Laws.StructEq
namespace Go.Proofs.Ytolinlcihddkoab
open Go.RowKit

theorem ev_side (p q r s q' s' j n : Int) (hn : 1 ≤ n ∧ n ≤ 64) (hj : 0 ≤ j ∧ j ≤ n) : evP p q r s n j n = evP q q' s s' 0 j n := by
  rw [ev_yes (by omega), ev_yes (by omega)]
  unfold gridP
  rw [show (n - j) * ((n - n) * p + n * q) + j * ((n - n) * r + n * s) = (n - j) * ((n - 0) * q + 0 * q') + j * ((n - 0) * s + 0 * s') by grind]
theorem ev_corner (p q r s n : Int) (hn : 1 ≤ n ∧ n ≤ 64) : evP p q r s 0 0 n = p := by
  rw [ev_yes (by omega)]
  unfold gridP fdivP
  have h1 := sq_pos hn.1
  rw [if_neg (by omega), show (n - 0) * ((n - 0) * p + 0 * q) + 0 * ((n - 0) * r + 0 * s) = (n * n) * p by grind, Int.mul_ediv_cancel_left _ (by omega)]
/-- the second patch begins where the first ends -/
structure Joined (P Q : PV) : Prop where
  h0 : Q.p0 = P.p3
  h1 : Q.p1 = P.p4
  h2 : Q.p2 = P.p5
  h6 : Q.p6 = P.x
  h7 : Q.p7 = P.y
  h8 : Q.p8 = P.z
theorem joined_at {P Q : PV} (h : Joined P Q) {j n : Int} (hn : 1 ≤ n ∧ n ≤ 64) (hj : 0 ≤ j ∧ j ≤ n) : P.at n j n = Q.at 0 j n := by
  unfold PV.at
  rw [h.h0, h.h1, h.h2, h.h6, h.h7, h.h8]
  rw [ev_side _ _ _ _ (cc Q.p3) (cc Q.x) j n hn hj, ev_side _ _ _ _ (cc Q.p4) (cc Q.y) j n hn hj, ev_side _ _ _ _ (cc Q.p5) (cc Q.z) j n hn hj]
/-- the first micropolygon of a cell -/
theorem cellL_head {C : CV} {P : PV} {l m u v n : Int} {p : M4} {r : List M4} (h : cellL C P l m u v n = p :: r) : p.1 = gV C P l m n u v ∧ p.2.1 = gV C P l m n (u + 1) v := by
  unfold cellL at h
  split at h
  · simp only [twoM, List.cons.injEq] at h
    obtain ⟨rfl, _⟩ := h
    exact ⟨rfl, rfl⟩
  · cases h
theorem crack_free {C : CV} {P Q : PV} (h : Joined P Q) {l m j n : Int} (hn : 1 ≤ n ∧ n ≤ 64) (hj : 0 ≤ j ∧ j ≤ n) {p q : M4} {r s : List M4} (hp : cellL C P l m (n - 1) j n = p :: r) (hq : cellL C Q l m 0 j n = q :: s) : p.2.1 = q.1 := by
  rw [(cellL_head hp).2, (cellL_head hq).1]
  unfold gV
  rw [show n - 1 + 1 = n by omega, joined_at h hn hj]
theorem veq_selfK (a b c : Int) (w : World) : (binOp .eql 27 (vec a b c) (vec a b c)).run Try.prog w = .ok (.bool true) w := by
  rw [veq_run]; simp [veqB]
theorem veq_selfKN (a b c : Int) (w : World) : (binOp .neq 27 (vec a b c) (vec a b c)).run Try.prog w = .ok (.bool false) w := by
  rw [run_neq_struct, veq_in]; simp [veqB]
theorem veq_selfKI (a b c : Int) (w : World) : (Op.equalIn 10000 27 (vec a b c) (vec a b c)).run Try.prog w = .ok true w := by
  rw [veq_in]; simp [veqB]
end Go.Proofs.Ytolinlcihddkoab
