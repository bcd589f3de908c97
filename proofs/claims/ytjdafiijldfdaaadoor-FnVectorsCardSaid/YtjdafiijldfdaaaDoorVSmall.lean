/- The functions of chapter 3 at small vectors. -/
import Derived.Test.YtjdafiijldfdaaaDoorProg
import Derived.Test.YtjdafiijldfdaaaDoorMem
import Derived.Test.YtjdafiijldfdaaaDoorInts
import Derived.Test.YtjdafiijldfdaaaDoorIntS
import Derived.Test.YtjdafiijldfdaaaDoorCur
import Derived.Test.YtjdafiijldfdaaaDoorNumP
import Derived.Test.YtjdafiijldfdaaaDoorFmt
import Derived.Test.YtjdafiijldfdaaaDoorFmts
import Derived.Test.YtjdafiijldfdaaaDoorParses
import Derived.Test.YtjdafiijldfdaaaDoorRound
import Derived.Test.YtjdafiijldfdaaaDoorNumsRound
import Derived.Test.YtjdafiijldfdaaaDoorVbox
import Derived.Test.YtjdafiijldfdaaaDoorVec
import Derived.Test.YtjdafiijldfdaaaDoorVlaw
import Derived.Test.YtjdafiijldfdaaaDoorVAdd
import Derived.Test.YtjdafiijldfdaaaDoorVSubVec
import Derived.Test.YtjdafiijldfdaaaDoorVDot
import Derived.Test.YtjdafiijldfdaaaDoorVLerp
import Derived.Test.YtjdafiijldfdaaaDoorVMinVec
import Derived.Test.YtjdafiijldfdaaaDoorVMaxVec
import Derived.Test.YtjdafiijldfdaaaDoorVScale
import Derived.Test.YtjdafiijldfdaaaDoorVFmt
import Derived.Test.YtjdafiijldfdaaaDoorVPar
import Derived.Test.YtjdafiijldfdaaaDoorVDraw
import Derived.WalkKit
import Derived.WalkSpells
import Derived.WalkLawsBesides
import Derived.Lib.Hide
import Derived.Handy
namespace Go.Proofs.YtjdafiijldfdaaaDoor
open Go.RowKit

section
variable {x y z p q r : Int} (w : World)
theorem cc_s {a : Int} (h : -2000 ≤ a ∧ a ≤ 2000) : cc a = a := cc_in (by omega) (by omega)
theorem vecOut_eq {a b c d e f : Int} {w : World} {E : Ending} {w' : World} (h : VecOut a b c w E w') (h0 : a = d) (h1 : b = e) (h2 : c = f) : VecOut d e f w E w' := by subst h0; subst h1; subst h2; exact h
theorem small_ok (ha : Small x y z) : okB x y z = true := by
  obtain ⟨h1, h2, h3⟩ := ha
  exact (okB_iff x y z).2 ⟨by omega, by omega, by omega⟩
theorem vecOf_fmt (ha : Small x y z) : VecOf (fmtV x y z) x y z := by
  have hk := small_ok ha
  refine ⟨?_, hk⟩
  rw [show fmtV x y z = fmtsP [x, y, z] from if_pos hk]
  obtain ⟨h1, h2, h3⟩ := ha
  refine nums_fmts _ (fun a hm => ?_)
  simp only [List.mem_cons, List.not_mem_nil, or_false] at hm
  rcases hm with rfl | rfl | rfl
  · exact ⟨by omega, by omega⟩
  · exact ⟨by omega, by omega⟩
  · exact ⟨by omega, by omega⟩
theorem fmtV_size (ha : Small x y z) : (fmtV x y z).size ≤ 1048576 := by
  rw [show fmtV x y z = fmtsP [x, y, z] from if_pos (small_ok ha)]
  exact fmts_size _ (by simp)
theorem fdiv_self (a : Int) : fdivP (5 * a) 5 = a := by unfold fdivP; rw [if_neg (by omega)]; omega
theorem fdiv_one (a : Int) : fdivP a 1 = a := by unfold fdivP; rw [if_neg (by omega)]; omega
theorem lerp0 (a b : Int) : lerpP a b 0 5 = a := by
  rw [lerp_good (by omega)]
  have e : (5 - 0) * a + 0 * b = 5 * a := by omega
  rw [e]; exact fdiv_self a
theorem lerp5 (a b : Int) : lerpP a b 5 5 = b := by
  rw [lerp_good (by omega)]
  have e : (5 - 5) * a + 5 * b = 5 * b := by omega
  rw [e]; exact fdiv_self b
theorem scale1 {a : Int} (h : -2000 ≤ a ∧ a ≤ 2000) : scaleP a 1 1 = a := by
  rw [scale_good (by omega), Int.one_mul, fdiv_one]; exact cc_s h
theorem mnmx (a b : Int) : mnP a b + mxP a b = a + b := by unfold mnP mxP; split <;> split <;> omega
theorem mn_bd {a b : Int} (ha : -1000 ≤ a ∧ a ≤ 1000) (hb : -1000 ≤ b ∧ b ≤ 1000) : -1000 ≤ mnP a b ∧ mnP a b ≤ 1000 := by unfold mnP; split <;> omega
theorem mx_bd {a b : Int} (ha : -1000 ≤ a ∧ a ≤ 1000) (hb : -1000 ≤ b ∧ b ≤ 1000) : -1000 ≤ mxP a b ∧ mxP a b ≤ 1000 := by unfold mxP; split <;> omega
theorem add_s {a b : Int} (ha : -1000 ≤ a ∧ a ≤ 1000) (hb : -1000 ≤ b ∧ b ≤ 1000) : cc (cc a + cc b) = a + b := by
  rw [cc_s (a := a) (by omega), cc_s (a := b) (by omega), cc_s (by omega)]
theorem sub_s {a b : Int} (ha : -1000 ≤ a ∧ a ≤ 1000) (hb : -1000 ≤ b ∧ b ≤ 1000) : cc (cc (a + b) - cc b) = a := by
  rw [cc_s (a := a + b) (by omega), cc_s (a := b) (by omega), cc_s (by omega)]; omega
theorem add_ab (ha : Small x y z) (hb : Small p q r) : Calls Tryd.prog 13 #[vec x y z, vec p q r] w (VecOut (x + p) (y + q) (z + r) w) :=
  (add_any x y z p q r w).mono fun _ _ h => vecOut_eq h (add_s ha.1 hb.1) (add_s ha.2.1 hb.2.1) (add_s ha.2.2 hb.2.2)
theorem add_ba (ha : Small x y z) (hb : Small p q r) : Calls Tryd.prog 13 #[vec p q r, vec x y z] w (VecOut (x + p) (y + q) (z + r) w) :=
  (add_any p q r x y z w).mono fun _ _ h => vecOut_eq h ((add_s hb.1 ha.1).trans (Int.add_comm _ _)) ((add_s hb.2.1 ha.2.1).trans (Int.add_comm _ _)) ((add_s hb.2.2 ha.2.2).trans (Int.add_comm _ _))
theorem sub_ab (ha : Small x y z) (hb : Small p q r) : Calls Tryd.prog 14 #[vec (x + p) (y + q) (z + r), vec p q r] w (VecOut x y z w) :=
  (subVec_any (x + p) (y + q) (z + r) p q r w).mono fun _ _ h => vecOut_eq h (sub_s ha.1 hb.1) (sub_s ha.2.1 hb.2.1) (sub_s ha.2.2 hb.2.2)
/-- the dot product under a name -/
def dotP (x y z p q r : Int) : Int := cc x * cc p + cc y * cc q + cc z * cc r
theorem dot_ab : Calls Tryd.prog 15 #[vec x y z, vec p q r] w fun e w' => e = .returned (.int .i64 (dotP x y z p q r)) ∧ Below w.heap.size w w' := dot_any x y z p q r w
theorem dotP_beq (x y z p q r : Int) : (dotP x y z p q r == dotP p q r x y z) = true := by
  rw [beq_iff_eq]; unfold dotP; rw [Int.mul_comm (cc p), Int.mul_comm (cc q), Int.mul_comm (cc r)]
theorem lerp_0 (ha : Small x y z) : Calls Tryd.prog 16 #[vec x y z, vec p q r, .int .i64 0, .int .i64 5] w (VecOut x y z w) :=
  (lerp_any x y z p q r 0 5 w).mono fun _ _ h => vecOut_eq h ((lerp0 _ _).trans (cc_s (by have := ha.1; omega))) ((lerp0 _ _).trans (cc_s (by have := ha.2.1; omega))) ((lerp0 _ _).trans (cc_s (by have := ha.2.2; omega)))
theorem lerp_5 (hb : Small p q r) : Calls Tryd.prog 16 #[vec x y z, vec p q r, .int .i64 5, .int .i64 5] w (VecOut p q r w) :=
  (lerp_any x y z p q r 5 5 w).mono fun _ _ h => vecOut_eq h ((lerp5 _ _).trans (cc_s (by have := hb.1; omega))) ((lerp5 _ _).trans (cc_s (by have := hb.2.1; omega))) ((lerp5 _ _).trans (cc_s (by have := hb.2.2; omega)))
theorem mnc {a b : Int} (ha : -1000 ≤ a ∧ a ≤ 1000) (hb : -1000 ≤ b ∧ b ≤ 1000) : mnP (cc a) (cc b) = mnP a b := by rw [cc_s (a := a) (by omega), cc_s (a := b) (by omega)]
theorem mxc {a b : Int} (ha : -1000 ≤ a ∧ a ≤ 1000) (hb : -1000 ≤ b ∧ b ≤ 1000) : mxP (cc a) (cc b) = mxP a b := by rw [cc_s (a := a) (by omega), cc_s (a := b) (by omega)]
theorem min_ab (ha : Small x y z) (hb : Small p q r) : Calls Tryd.prog 17 #[vec x y z, vec p q r] w (VecOut (mnP x p) (mnP y q) (mnP z r) w) :=
  (minVec_any x y z p q r w).mono fun _ _ h => vecOut_eq h (mnc ha.1 hb.1) (mnc ha.2.1 hb.2.1) (mnc ha.2.2 hb.2.2)
theorem max_ab (ha : Small x y z) (hb : Small p q r) : Calls Tryd.prog 18 #[vec x y z, vec p q r] w (VecOut (mxP x p) (mxP y q) (mxP z r) w) :=
  (maxVec_any x y z p q r w).mono fun _ _ h => vecOut_eq h (mxc ha.1 hb.1) (mxc ha.2.1 hb.2.1) (mxc ha.2.2 hb.2.2)
theorem add_mm (ha : Small x y z) (hb : Small p q r) : Calls Tryd.prog 13 #[vec (mnP x p) (mnP y q) (mnP z r), vec (mxP x p) (mxP y q) (mxP z r)] w (VecOut (x + p) (y + q) (z + r) w) :=
  (add_any _ _ _ _ _ _ w).mono fun _ _ h => vecOut_eq h ((add_s (mn_bd ha.1 hb.1) (mx_bd ha.1 hb.1)).trans (mnmx _ _)) ((add_s (mn_bd ha.2.1 hb.2.1) (mx_bd ha.2.1 hb.2.1)).trans (mnmx _ _)) ((add_s (mn_bd ha.2.2 hb.2.2) (mx_bd ha.2.2 hb.2.2)).trans (mnmx _ _))
theorem scale_1 (ha : Small x y z) : Calls Tryd.prog 19 #[vec x y z, .int .i64 1, .int .i64 1] w (VecOut x y z w) :=
  (scale_any x y z 1 1 w).mono fun _ _ h => vecOut_eq h (by rw [cc_s (by have := ha.1; omega)]; exact scale1 (by have := ha.1; omega)) (by rw [cc_s (by have := ha.2.1; omega)]; exact scale1 (by have := ha.2.1; omega)) (by rw [cc_s (by have := ha.2.2; omega)]; exact scale1 (by have := ha.2.2; omega))
theorem veq_self (a b c : Int) (w : World) : (Op.equalIn 10000 25 (vec a b c) (vec a b c)).run Tryd.prog w = .ok true w := by
  rw [veq_in]; simp [veqB]
theorem veq_self' (a b c : Int) (w : World) : (binOp .eql 25 (vec a b c) (vec a b c)).run Tryd.prog w = .ok (.bool true) w := by
  rw [veq_run]; simp [veqB]
/-- the law's four boxes -/
def Four (w W : World) (i j k l : Nat) (x y z p q r : Int) : Prop :=
  Vbox W i x y z ∧ Vbox W j p q r ∧ Vbox W k x y z ∧ Vbox W l (x + p) (y + q) (z + r) ∧ Below w.heap.size w W
variable {w} {W W' : World} {i j k l : Nat}
theorem Four.later (h : Four w W i j k l x y z p q r) (hb : Below W.heap.size W W') : Four w W' i j k l x y z p q r := ⟨h.1.later hb, h.2.1.later hb, h.2.2.1.later hb, h.2.2.2.1.later hb, bcall h.2.2.2.2 hb h.2.2.2.2.size⟩
theorem Four.drew (h : Four w W i j k l x y z p q r) : Four w W.drew i j k l x y z p q r := ⟨h.1.drew, h.2.1.drew, h.2.2.1.drew, h.2.2.2.1.drew, h.2.2.2.2.drew⟩
theorem Four.cells (h : Four w W i j k l x y z p q r) : W.cell? ⟨i, 0, none⟩ = some (.int .i64 x) ∧ W.cell? ⟨i, 1, none⟩ = some (.int .i64 y) ∧ W.cell? ⟨i, 2, none⟩ = some (.int .i64 z) ∧
    W.cell? ⟨j, 0, none⟩ = some (.int .i64 p) ∧ W.cell? ⟨j, 1, none⟩ = some (.int .i64 q) ∧ W.cell? ⟨j, 2, none⟩ = some (.int .i64 r) ∧
    W.cell? ⟨k, 0, none⟩ = some (.int .i64 x) ∧ W.cell? ⟨k, 1, none⟩ = some (.int .i64 y) ∧ W.cell? ⟨k, 2, none⟩ = some (.int .i64 z) ∧
    W.cell? ⟨l, 0, none⟩ = some (.int .i64 (x + p)) ∧ W.cell? ⟨l, 1, none⟩ = some (.int .i64 (y + q)) ∧ W.cell? ⟨l, 2, none⟩ = some (.int .i64 (z + r)) :=
  ⟨h.1.1, h.1.2.1, h.1.2.2.1, h.2.1.1, h.2.1.2.1, h.2.1.2.2.1, h.2.2.1.1, h.2.2.1.2.1, h.2.2.1.2.2.1, h.2.2.2.1.1, h.2.2.2.1.2.1, h.2.2.2.1.2.2.1⟩
end

end Go.Proofs.YtjdafiijldfdaaaDoor
