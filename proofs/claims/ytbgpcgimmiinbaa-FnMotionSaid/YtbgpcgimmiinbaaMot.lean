/- What the law on moving patches asks: contracts with named answers. -/
import Derived.Test.YtbgpcgimmiinbaaProg
import Derived.Test.YtbgpcgimmiinbaaInts
import Derived.Test.YtbgpcgimmiinbaaVbox
import Derived.Test.YtbgpcgimmiinbaaVec
import Derived.Test.YtbgpcgimmiinbaaHeld
import Derived.Test.YtbgpcgimmiinbaaArr
import Derived.Test.YtbgpcgimmiinbaaTr
import Derived.Test.YtbgpcgimmiinbaaMem
import Derived.Test.YtbgpcgimmiinbaaFlat
import Derived.Test.YtbgpcgimmiinbaaRowC
import Derived.Test.YtbgpcgimmiinbaaPat
import Derived.Test.YtbgpcgimmiinbaaPVal
import Derived.Test.YtbgpcgimmiinbaaVLerp
import Derived.Test.YtbgpcgimmiinbaaCam
import Derived.Test.YtbgpcgimmiinbaaItp
import Derived.Test.YtbgpcgimmiinbaaBox
import Derived.Test.YtbgpcgimmiinbaaBUnion
import Derived.Test.YtbgpcgimmiinbaaBPts
import Derived.Test.YtbgpcgimmiinbaaBCont
import Derived.Test.YtbgpcgimmiinbaaPBd
import Derived.WalkKit
import Derived.WalkSpells
import Derived.WalkLawsBesides
import Derived.Lib.Hide
import Derived.Deep.RegionHeld3
import Derived.Deep.QuietTactic
import Derived.BigQuiet
import Derived.Handy
import Derived.Deep.DeepCutAuto
import Derived.Laws.StructEq
namespace Go.Proofs.Ytbgpcgimmiinbaa
open Go.RowKit

theorem lerp_mid {a b t lo hi : Int} (ht : 0 ≤ t ∧ t ≤ 16) (ha : lo ≤ a ∧ a ≤ hi) (hb : lo ≤ b ∧ b ≤ hi) : lo ≤ lerpP a b t 16 ∧ lerpP a b t 16 ≤ hi := by
  rw [lerp_good ⟨by omega, ht.1, ht.2⟩]
  have h1 := Int.mul_le_mul_of_nonneg_left ha.1 (show 0 ≤ 16 - t by omega)
  have h2 := Int.mul_le_mul_of_nonneg_left ha.2 (show 0 ≤ 16 - t by omega)
  have h3 := Int.mul_le_mul_of_nonneg_left hb.1 ht.1
  have h4 := Int.mul_le_mul_of_nonneg_left hb.2 ht.1
  have e1 : (16 - t) * lo = 16 * lo - t * lo := Int.sub_mul ..
  have e2 : (16 - t) * hi = 16 * hi - t * hi := Int.sub_mul ..
  generalize (16 - t) * a = y at *
  generalize t * b = z at *
  generalize t * lo = u at *
  generalize t * hi = v at *
  unfold fdivP
  rw [if_neg (by omega)]
  omega
theorem mn4m (a b c d : Int) : mnP (mnP (mnP a b) c) d ≤ a ∧ mnP (mnP (mnP a b) c) d ≤ b ∧ mnP (mnP (mnP a b) c) d ≤ c ∧ mnP (mnP (mnP a b) c) d ≤ d := by
  unfold mnP; split <;> split <;> split <;> omega
theorem mx4m (a b c d : Int) : a ≤ mxP (mxP (mxP a b) c) d ∧ b ≤ mxP (mxP (mxP a b) c) d ∧ c ≤ mxP (mxP (mxP a b) c) d ∧ d ≤ mxP (mxP (mxP a b) c) d := by
  unfold mxP; split <;> split <;> split <;> omega
theorem mnP_le (a b : Int) : mnP a b ≤ a ∧ mnP a b ≤ b := by unfold mnP; split <;> omega
theorem le_mxP (a b : Int) : a ≤ mxP a b ∧ b ≤ mxP a b := by unfold mxP; split <;> omega
theorem four_in (f : V3 → Int) (v0 v1 v2 v3 v : V3) (h : v ∈ [v0, v1, v2, v3]) : mnF f v0 [v1, v2, v3] ≤ cc (f v) ∧ cc (f v) ≤ mxF f v0 [v1, v2, v3] := by
  have h1 := mn4m (cc (f v0)) (cc (f v1)) (cc (f v2)) (cc (f v3))
  have h2 := mx4m (cc (f v0)) (cc (f v1)) (cc (f v2)) (cc (f v3))
  have e1 : mnF f v0 [v1, v2, v3] = mnP (mnP (mnP (cc (f v0)) (cc (f v1))) (cc (f v2))) (cc (f v3)) := rfl
  have e2 : mxF f v0 [v1, v2, v3] = mxP (mxP (mxP (cc (f v0)) (cc (f v1))) (cc (f v2))) (cc (f v3)) := rfl
  rw [e1, e2]
  simp only [List.mem_cons, List.not_mem_nil, or_false] at h
  rcases h with rfl | rfl | rfl | rfl
  · exact ⟨h1.1, h2.1⟩
  · exact ⟨h1.2.1, h2.2.1⟩
  · exact ⟨h1.2.2.1, h2.2.2.1⟩
  · exact ⟨h1.2.2.2, h2.2.2.2⟩
theorem mot_in (f : V3 → Int) (v0 v1 v2 v3 u0 u1 u2 u3 v u : V3) (hv : v ∈ [v0, v1, v2, v3]) (hu : u ∈ [u0, u1, u2, u3]) {t : Int} (ht : 0 ≤ t ∧ t ≤ 16) :
    mnP (cc (mnF f v0 [v1, v2, v3])) (cc (mnF f u0 [u1, u2, u3])) ≤ itA t (f v) (f u) ∧ itA t (f v) (f u) ≤ mxP (cc (mxF f v0 [v1, v2, v3])) (cc (mxF f u0 [u1, u2, u3])) := by
  rw [itA_yes ((inC_iff ..).2 ht), cc_mnF, cc_mnF, cc_mxF, cc_mxF]
  have h1 := four_in f v0 v1 v2 v3 v hv
  have h2 := four_in f u0 u1 u2 u3 u hu
  have h3 := mnP_le (mnF f v0 [v1, v2, v3]) (mnF f u0 [u1, u2, u3])
  have h4 := le_mxP (mxF f v0 [v1, v2, v3]) (mxF f u0 [u1, u2, u3])
  exact lerp_mid ht ⟨by omega, by omega⟩ ⟨by omega, by omega⟩
theorem itA_zero {a b : Int} (ha : -1000 ≤ a ∧ a ≤ 1000) : itA 0 a b = a := by
  rw [itA_yes rfl, cc_in (by omega) (by omega), lerp_good ⟨by omega, by omega, by omega⟩]
  unfold fdivP
  rw [if_neg (by omega)]
  omega
theorem itA_full {a b : Int} (hb : -1000 ≤ b ∧ b ≤ 1000) : itA 16 a b = b := by
  rw [itA_yes rfl, cc_in (n := b) (by omega) (by omega), lerp_good ⟨by omega, by omega, by omega⟩]
  unfold fdivP
  rw [if_neg (by omega)]
  omega
theorem pat_selfM (a0 a1 a2 a3 a4 a5 a6 a7 a8 x y z : Int) (w : World) : (binOp .eql 40 (tr a0 a1 a2 a3 a4 a5 a6 a7 a8 x y z) (tr a0 a1 a2 a3 a4 a5 a6 a7 a8 x y z)).run Try.prog w = .ok (.bool true) w := by
  rw [eql_patB]; simp
theorem pat_selfMI (a0 a1 a2 a3 a4 a5 a6 a7 a8 x y z : Int) (w : World) : (Op.equalIn 10000 40 (tr a0 a1 a2 a3 a4 a5 a6 a7 a8 x y z) (tr a0 a1 a2 a3 a4 a5 a6 a7 a8 x y z)).run Try.prog w = .ok true w := by
  rw [eql_pat]; simp
set_option maxHeartbeats 4000000 in
theorem mot_law (a0 a1 a2 a3 a4 a5 a6 a7 a8 x y z b0 b1 b2 b3 b4 b5 b6 b7 b8 b9 b10 b11 t : Int) (ht : 0 ≤ t ∧ t ≤ 16) (hA : (∀ v ∈ ([(a0, a1, a2), (a3, a4, a5), (a6, a7, a8), (x, y, z)] : List V3), (-1000 ≤ v.1 ∧ v.1 ≤ 1000) ∧ (-1000 ≤ v.2.1 ∧ v.2.1 ≤ 1000) ∧ (-1000 ≤ v.2.2 ∧ v.2.2 ≤ 1000))) (hB : (∀ v ∈ ([(b0, b1, b2), (b3, b4, b5), (b6, b7, b8), (b9, b10, b11)] : List V3), (-1000 ≤ v.1 ∧ v.1 ≤ 1000) ∧ (-1000 ≤ v.2.1 ∧ v.2.1 ≤ 1000) ∧ (-1000 ≤ v.2.2 ∧ v.2.2 ≤ 1000))) : ∃ m0 m1 m2 m3 m4 m5 m6 m7 m8 m9 m10 m11 q0 q1 q2 q3 q4 q5 p0 p1 p2 p3 p4 p5 u0 u1 u2 u3 u4 u5 : Int,
    (∀ w : World, Calls Try.prog 15 #[tr a0 a1 a2 a3 a4 a5 a6 a7 a8 x y z, tr b0 b1 b2 b3 b4 b5 b6 b7 b8 b9 b10 b11, .int .i64 t] w (TrOut m0 m1 m2 m3 m4 m5 m6 m7 m8 m9 m10 m11 w)) ∧
    (∀ w : World, Calls Try.prog 17 #[tr a0 a1 a2 a3 a4 a5 a6 a7 a8 x y z] w (BoxOut q0 q1 q2 q3 q4 q5 w)) ∧
    (∀ w : World, Calls Try.prog 17 #[tr b0 b1 b2 b3 b4 b5 b6 b7 b8 b9 b10 b11] w (BoxOut p0 p1 p2 p3 p4 p5 w)) ∧
    (∀ w : World, Calls Try.prog 16 #[box q0 q1 q2 q3 q4 q5, box p0 p1 p2 p3 p4 p5] w (BoxOut u0 u1 u2 u3 u4 u5 w)) ∧
    (∀ v ∈ ([(m0, m1, m2), (m3, m4, m5), (m6, m7, m8), (m9, m10, m11)] : List V3), ∀ w : World, Calls Try.prog 18 #[box u0 u1 u2 u3 u4 u5, vec v.1 v.2.1 v.2.2] w (BoolOut2 true w)) ∧
    (∀ w : World, Calls Try.prog 15 #[tr a0 a1 a2 a3 a4 a5 a6 a7 a8 x y z, tr b0 b1 b2 b3 b4 b5 b6 b7 b8 b9 b10 b11, .int .i64 0] w (TrOut a0 a1 a2 a3 a4 a5 a6 a7 a8 x y z w)) ∧
    (∀ w : World, Calls Try.prog 15 #[tr a0 a1 a2 a3 a4 a5 a6 a7 a8 x y z, tr b0 b1 b2 b3 b4 b5 b6 b7 b8 b9 b10 b11, .int .i64 16] w (TrOut b0 b1 b2 b3 b4 b5 b6 b7 b8 b9 b10 b11 w)) := by
  refine ⟨itA t a0 b0, itA t a1 b1, itA t a2 b2, itA t a3 b3, itA t a4 b4, itA t a5 b5, itA t a6 b6, itA t a7 b7, itA t a8 b8, itA t x b9, itA t y b10, itA t z b11, mnF cx (a0, a1, a2) [(a3, a4, a5), (a6, a7, a8), (x, y, z)], mnF cy (a0, a1, a2) [(a3, a4, a5), (a6, a7, a8), (x, y, z)], mnF cz (a0, a1, a2) [(a3, a4, a5), (a6, a7, a8), (x, y, z)], mxF cx (a0, a1, a2) [(a3, a4, a5), (a6, a7, a8), (x, y, z)], mxF cy (a0, a1, a2) [(a3, a4, a5), (a6, a7, a8), (x, y, z)], mxF cz (a0, a1, a2) [(a3, a4, a5), (a6, a7, a8), (x, y, z)], mnF cx (b0, b1, b2) [(b3, b4, b5), (b6, b7, b8), (b9, b10, b11)], mnF cy (b0, b1, b2) [(b3, b4, b5), (b6, b7, b8), (b9, b10, b11)], mnF cz (b0, b1, b2) [(b3, b4, b5), (b6, b7, b8), (b9, b10, b11)], mxF cx (b0, b1, b2) [(b3, b4, b5), (b6, b7, b8), (b9, b10, b11)], mxF cy (b0, b1, b2) [(b3, b4, b5), (b6, b7, b8), (b9, b10, b11)], mxF cz (b0, b1, b2) [(b3, b4, b5), (b6, b7, b8), (b9, b10, b11)], mnP (cc (mnF cx (a0, a1, a2) [(a3, a4, a5), (a6, a7, a8), (x, y, z)])) (cc (mnF cx (b0, b1, b2) [(b3, b4, b5), (b6, b7, b8), (b9, b10, b11)])), mnP (cc (mnF cy (a0, a1, a2) [(a3, a4, a5), (a6, a7, a8), (x, y, z)])) (cc (mnF cy (b0, b1, b2) [(b3, b4, b5), (b6, b7, b8), (b9, b10, b11)])), mnP (cc (mnF cz (a0, a1, a2) [(a3, a4, a5), (a6, a7, a8), (x, y, z)])) (cc (mnF cz (b0, b1, b2) [(b3, b4, b5), (b6, b7, b8), (b9, b10, b11)])), mxP (cc (mxF cx (a0, a1, a2) [(a3, a4, a5), (a6, a7, a8), (x, y, z)])) (cc (mxF cx (b0, b1, b2) [(b3, b4, b5), (b6, b7, b8), (b9, b10, b11)])), mxP (cc (mxF cy (a0, a1, a2) [(a3, a4, a5), (a6, a7, a8), (x, y, z)])) (cc (mxF cy (b0, b1, b2) [(b3, b4, b5), (b6, b7, b8), (b9, b10, b11)])), mxP (cc (mxF cz (a0, a1, a2) [(a3, a4, a5), (a6, a7, a8), (x, y, z)])) (cc (mxF cz (b0, b1, b2) [(b3, b4, b5), (b6, b7, b8), (b9, b10, b11)])), fun w => interpolatePatch_any a0 a1 a2 a3 a4 a5 a6 a7 a8 x y z b0 b1 b2 b3 b4 b5 b6 b7 b8 b9 b10 b11 t w, fun w => patchBounds_any a0 a1 a2 a3 a4 a5 a6 a7 a8 x y z w, fun w => patchBounds_any b0 b1 b2 b3 b4 b5 b6 b7 b8 b9 b10 b11 w, fun w => unionBox_any _ _ _ _ _ _ _ _ _ _ _ _ w, ?_, ?_, ?_⟩
  · have HM : ∀ (v u : V3), v ∈ ([(a0, a1, a2), (a3, a4, a5), (a6, a7, a8), (x, y, z)] : List V3) → u ∈ ([(b0, b1, b2), (b3, b4, b5), (b6, b7, b8), (b9, b10, b11)] : List V3) → ∀ w : World, Calls Try.prog 18 #[box (mnP (cc (mnF cx (a0, a1, a2) [(a3, a4, a5), (a6, a7, a8), (x, y, z)])) (cc (mnF cx (b0, b1, b2) [(b3, b4, b5), (b6, b7, b8), (b9, b10, b11)]))) (mnP (cc (mnF cy (a0, a1, a2) [(a3, a4, a5), (a6, a7, a8), (x, y, z)])) (cc (mnF cy (b0, b1, b2) [(b3, b4, b5), (b6, b7, b8), (b9, b10, b11)]))) (mnP (cc (mnF cz (a0, a1, a2) [(a3, a4, a5), (a6, a7, a8), (x, y, z)])) (cc (mnF cz (b0, b1, b2) [(b3, b4, b5), (b6, b7, b8), (b9, b10, b11)]))) (mxP (cc (mxF cx (a0, a1, a2) [(a3, a4, a5), (a6, a7, a8), (x, y, z)])) (cc (mxF cx (b0, b1, b2) [(b3, b4, b5), (b6, b7, b8), (b9, b10, b11)]))) (mxP (cc (mxF cy (a0, a1, a2) [(a3, a4, a5), (a6, a7, a8), (x, y, z)])) (cc (mxF cy (b0, b1, b2) [(b3, b4, b5), (b6, b7, b8), (b9, b10, b11)]))) (mxP (cc (mxF cz (a0, a1, a2) [(a3, a4, a5), (a6, a7, a8), (x, y, z)])) (cc (mxF cz (b0, b1, b2) [(b3, b4, b5), (b6, b7, b8), (b9, b10, b11)]))), vec (itA t v.1 u.1) (itA t v.2.1 u.2.1) (itA t v.2.2 u.2.2)] w (BoolOut2 true w) := fun v u hv hu w => by
      have h := boxContains_any (mnP (cc (mnF cx (a0, a1, a2) [(a3, a4, a5), (a6, a7, a8), (x, y, z)])) (cc (mnF cx (b0, b1, b2) [(b3, b4, b5), (b6, b7, b8), (b9, b10, b11)]))) (mnP (cc (mnF cy (a0, a1, a2) [(a3, a4, a5), (a6, a7, a8), (x, y, z)])) (cc (mnF cy (b0, b1, b2) [(b3, b4, b5), (b6, b7, b8), (b9, b10, b11)]))) (mnP (cc (mnF cz (a0, a1, a2) [(a3, a4, a5), (a6, a7, a8), (x, y, z)])) (cc (mnF cz (b0, b1, b2) [(b3, b4, b5), (b6, b7, b8), (b9, b10, b11)]))) (mxP (cc (mxF cx (a0, a1, a2) [(a3, a4, a5), (a6, a7, a8), (x, y, z)])) (cc (mxF cx (b0, b1, b2) [(b3, b4, b5), (b6, b7, b8), (b9, b10, b11)]))) (mxP (cc (mxF cy (a0, a1, a2) [(a3, a4, a5), (a6, a7, a8), (x, y, z)])) (cc (mxF cy (b0, b1, b2) [(b3, b4, b5), (b6, b7, b8), (b9, b10, b11)]))) (mxP (cc (mxF cz (a0, a1, a2) [(a3, a4, a5), (a6, a7, a8), (x, y, z)])) (cc (mxF cz (b0, b1, b2) [(b3, b4, b5), (b6, b7, b8), (b9, b10, b11)]))) (itA t v.1 u.1) (itA t v.2.1 u.2.1) (itA t v.2.2 u.2.2) w
      have hi : inB (mnP (cc (mnF cx (a0, a1, a2) [(a3, a4, a5), (a6, a7, a8), (x, y, z)])) (cc (mnF cx (b0, b1, b2) [(b3, b4, b5), (b6, b7, b8), (b9, b10, b11)]))) (mnP (cc (mnF cy (a0, a1, a2) [(a3, a4, a5), (a6, a7, a8), (x, y, z)])) (cc (mnF cy (b0, b1, b2) [(b3, b4, b5), (b6, b7, b8), (b9, b10, b11)]))) (mnP (cc (mnF cz (a0, a1, a2) [(a3, a4, a5), (a6, a7, a8), (x, y, z)])) (cc (mnF cz (b0, b1, b2) [(b3, b4, b5), (b6, b7, b8), (b9, b10, b11)]))) (mxP (cc (mxF cx (a0, a1, a2) [(a3, a4, a5), (a6, a7, a8), (x, y, z)])) (cc (mxF cx (b0, b1, b2) [(b3, b4, b5), (b6, b7, b8), (b9, b10, b11)]))) (mxP (cc (mxF cy (a0, a1, a2) [(a3, a4, a5), (a6, a7, a8), (x, y, z)])) (cc (mxF cy (b0, b1, b2) [(b3, b4, b5), (b6, b7, b8), (b9, b10, b11)]))) (mxP (cc (mxF cz (a0, a1, a2) [(a3, a4, a5), (a6, a7, a8), (x, y, z)])) (cc (mxF cz (b0, b1, b2) [(b3, b4, b5), (b6, b7, b8), (b9, b10, b11)]))) (itA t v.1 u.1) (itA t v.2.1 u.2.1) (itA t v.2.2 u.2.2) = true := (inB_iff ..).2 ⟨mot_in cx _ _ _ _ _ _ _ _ v u hv hu ht, mot_in cy _ _ _ _ _ _ _ _ v u hv hu ht, mot_in cz _ _ _ _ _ _ _ _ v u hv hu ht⟩
      rw [hi] at h
      exact h
    intro v hv w
    simp only [List.mem_cons, List.not_mem_nil, or_false] at hv
    rcases hv with rfl | rfl | rfl | rfl
    · exact HM (a0, a1, a2) (b0, b1, b2) (by simp) (by simp) w
    · exact HM (a3, a4, a5) (b3, b4, b5) (by simp) (by simp) w
    · exact HM (a6, a7, a8) (b6, b7, b8) (by simp) (by simp) w
    · exact HM (x, y, z) (b9, b10, b11) (by simp) (by simp) w
  · intro w
    have h := interpolatePatch_any a0 a1 a2 a3 a4 a5 a6 a7 a8 x y z b0 b1 b2 b3 b4 b5 b6 b7 b8 b9 b10 b11 0 w
    have a0_ := hA (a0, a1, a2) (by simp)
    have a1_ := hA (a3, a4, a5) (by simp)
    have a2_ := hA (a6, a7, a8) (by simp)
    have a3_ := hA (x, y, z) (by simp)
    rw [itA_zero (a := a0) (b := b0) a0_.1, itA_zero (a := a1) (b := b1) a0_.2.1, itA_zero (a := a2) (b := b2) a0_.2.2, itA_zero (a := a3) (b := b3) a1_.1, itA_zero (a := a4) (b := b4) a1_.2.1, itA_zero (a := a5) (b := b5) a1_.2.2, itA_zero (a := a6) (b := b6) a2_.1, itA_zero (a := a7) (b := b7) a2_.2.1, itA_zero (a := a8) (b := b8) a2_.2.2, itA_zero (a := x) (b := b9) a3_.1, itA_zero (a := y) (b := b10) a3_.2.1, itA_zero (a := z) (b := b11) a3_.2.2] at h
    exact h
  · intro w
    have h := interpolatePatch_any a0 a1 a2 a3 a4 a5 a6 a7 a8 x y z b0 b1 b2 b3 b4 b5 b6 b7 b8 b9 b10 b11 16 w
    have b0_ := hB (b0, b1, b2) (by simp)
    have b1_ := hB (b3, b4, b5) (by simp)
    have b2_ := hB (b6, b7, b8) (by simp)
    have b3_ := hB (b9, b10, b11) (by simp)
    rw [itA_full (a := a0) (b := b0) b0_.1, itA_full (a := a1) (b := b1) b0_.2.1, itA_full (a := a2) (b := b2) b0_.2.2, itA_full (a := a3) (b := b3) b1_.1, itA_full (a := a4) (b := b4) b1_.2.1, itA_full (a := a5) (b := b5) b1_.2.2, itA_full (a := a6) (b := b6) b2_.1, itA_full (a := a7) (b := b7) b2_.2.1, itA_full (a := a8) (b := b8) b2_.2.2, itA_full (a := x) (b := b9) b3_.1, itA_full (a := y) (b := b10) b3_.2.1, itA_full (a := z) (b := b11) b3_.2.2] at h
    exact h
end Go.Proofs.Ytbgpcgimmiinbaa
