/- What the law on samples asks. -/
import Derived.Test.YtbgpcgimmiinbaaProg
import Derived.Test.YtbgpcgimmiinbaaInts
import Derived.Test.YtbgpcgimmiinbaaMem
import Derived.Test.YtbgpcgimmiinbaaIntS
import Derived.Test.YtbgpcgimmiinbaaVbox
import Derived.Test.YtbgpcgimmiinbaaVec
import Derived.Test.YtbgpcgimmiinbaaHeld
import Derived.Test.YtbgpcgimmiinbaaFlat
import Derived.Test.YtbgpcgimmiinbaaRowC
import Derived.Test.YtbgpcgimmiinbaaCam
import Derived.Test.YtbgpcgimmiinbaaCPix
import Derived.Test.YtbgpcgimmiinbaaSmp
import Derived.Test.YtbgpcgimmiinbaaHsh
import Derived.Test.YtbgpcgimmiinbaaPx
import Derived.Test.YtbgpcgimmiinbaaSv
import Derived.WalkKit
import Derived.WalkSpells
import Derived.WalkLawsBesides
import Derived.Lib.Hide
import Derived.Deep.RegionHeld3
import Derived.Deep.QuietTactic
import Derived.BigQuiet
import Derived.Handy
import Derived.Deep.DeepCutAuto
namespace Go.Proofs.Ytbgpcgimmiinbaa
open Go.RowKit

theorem psm_law (a b c d : Int) (e : Bool) (f g : Int) (i j : Int) (n k : Nat) (hG : okC a b c d f g = true) (hi : 0 ≤ i ∧ i ≤ a - 1) (hj : 0 ≤ j ∧ j ≤ b - 1) (hn4 : n = 1 ∨ n = 2 ∨ n = 4) (hk : k < n * n) : ∃ x y t p q st ro cl : Int,
    psm i j n k = (x, y, t, p, q) ∧
    (∀ w : World, Calls Try.prog 12 #[cam a b c d e f g, .int .i64 x, .int .i64 y] w (fun e w' => e = .returned (.tuple #[.int .i64 i, .int .i64 j, .bool true]) ∧ Below w.heap.size w w')) ∧
    (∀ w : World, Calls Try.prog 13 #[cam a b c d e f g, smp x y t p q] w (BoolS true w)) ∧
    st = ((16 / n : Nat) : Int) ∧ Int.tdiv (x - i * 16) st = cl ∧ Int.tdiv (y - j * 16) st = ro ∧ Int.tmod (k : Int) (n : Int) = cl ∧ Int.tdiv (k : Int) (n : Int) = ro ∧
    (4 ≤ st ∧ st ≤ 16) ∧ (0 ≤ cl ∧ cl ≤ 3) ∧ (0 ≤ ro ∧ ro ≤ 3) ∧ (0 ≤ x - i * 16 ∧ x - i * 16 ≤ 15) ∧ (0 ≤ y - j * 16 ∧ y - j * 16 ≤ 15) := by
  obtain ⟨S, K, st, ro, cl, P, Q, g1, g2, g3, g4, g5, q⟩ := sq_of i j n k hn4 hk
  have eS := q.eS
  have eK := q.eK
  subst eS eK
  have ha := ((okC_iff ..).1 hG).1.1
  have hb := ((okC_iff ..).1 hG).1.2
  have b1 := q.b1
  have b2 := q.b2
  have b3 := q.b3
  have b4 := q.b4
  have b5 := q.b5
  have bP := q.bP
  have bQ := q.bQ
  have bst := q.bst
  have hpx : pxB a b c d f g (i * 16 + P + g1) (j * 16 + Q + g2) = true := by
    unfold pxB
    rw [hG, (inC_iff ..).2 ⟨by omega, by omega⟩, (inC_iff ..).2 ⟨by omega, by omega⟩]
    rfl
  have hv : vsm a b c d f g (i * 16 + P + g1) (j * 16 + Q + g2) g3 (g4 - 16) (g5 - 16) = true := by
    unfold vsm
    rw [hpx, (inC_iff ..).2 ⟨by omega, by omega⟩, (inC_iff ..).2 ⟨by omega, by omega⟩, (inC_iff ..).2 ⟨by omega, by omega⟩]
    rfl
  have d1 : fdivP (i * 16 + P + g1) 16 = i := by unfold fdivP; rw [if_neg (by omega)]; omega
  have d2 : fdivP (j * 16 + Q + g2) 16 = j := by unfold fdivP; rw [if_neg (by omega)]; omega
  have e1 : i * 16 + P + g1 - i * 16 = P + g1 := by omega
  have e2 : j * 16 + Q + g2 - j * 16 = Q + g2 := by omega
  refine ⟨_, _, _, _, _, st, ro, cl, q.v, fun w => ?_, fun w => ?_, ?_, ?_, ?_, q.ecl, q.ero, q.bst, q.bcl, q.bro, by omega, by omega⟩
  · have h := pixelAt_any a b c d e f g (i * 16 + P + g1) (j * 16 + Q + g2) (by omega) (by omega) (by omega) (by omega) w
    rw [hpx] at h
    unfold PxOut pxV at h
    rw [if_pos rfl, if_pos rfl, d1, d2] at h
    exact h
  · have h := isValidSample_any a b c d e f g (i * 16 + P + g1) (j * 16 + Q + g2) g3 (g4 - 16) (g5 - 16) (by omega) (by omega) (by omega) (by omega) w
    rw [hv] at h
    exact h
  · rw [← q.est]; rfl
  · rw [e1, Int.tdiv_eq_ediv_of_nonneg (by omega)]
    exact ediv_of _ _ cl g1 (by omega) (by rw [Int.mul_comm, q.eP]) b1.1 b1.2
  · rw [e2, Int.tdiv_eq_ediv_of_nonneg (by omega)]
    exact ediv_of _ _ ro g2 (by omega) (by rw [Int.mul_comm, q.eQ]) b2.1 b2.2
end Go.Proofs.Ytbgpcgimmiinbaa
