/- Contracts of the vector functions of chapter 3 and of their model: clamping, adding, scaling, comparing. -/
import Derived.Test.YtjjafbcfmijppaaProg
import Derived.Test.YtjjafbcfmijppaaInts
import Derived.Test.YtjjafbcfmijppaaVbox
import Derived.WalkKit
import Derived.WalkSpells
import Derived.WalkLawsBesides
import Derived.Lib.Hide
import Derived.Deep.RegionHeld3
import Derived.Deep.QuietTactic
import Derived.BigQuiet
import Derived.Handy
import Derived.Deep.DeepCutAuto
import Derived.Laws.StructEq
import Derived.IntWalk
namespace Go.Proofs.Ytjjafbcfmijppaa
open Go.RowKit

abbrev vec (x y z : Int) : Value := .agg #[.int .i64 x, .int .i64 y, .int .i64 z]
/-- a coordinate, clamped -/
def cc (n : Int) : Int := clampP n (-1000000) 1000000
theorem cc_bd (n : Int) : -1000000 ≤ cc n ∧ cc n ≤ 1000000 := clampP_bd n _ _ (by omega)
theorem cc_in {n : Int} (h0 : -1000000 ≤ n) (h1 : n ≤ 1000000) : cc n = n := by unfold cc clampP; split <;> (try split) <;> omega
/-- the lesser and the greater of two -/
def mnP (a b : Int) : Int := if b < a then b else a
def mxP (a b : Int) : Int := if a < b then b else a
def VecOut (x y z : Int) (w : World) (e : Ending) (w' : World) : Prop := e = .returned (vec x y z) ∧ Below w.heap.size w w'
/-- two vectors are equal -/
def veqB (a b c d e f : Int) : Bool := a == d && b == e && c == f
/-- a vector is in range -/
def okB (x y z : Int) : Bool := veqB x y z (cc x) (cc y) (cc z)
theorem okB_iff (x y z : Int) : okB x y z = true ↔ (-1000000 ≤ x ∧ x ≤ 1000000) ∧ (-1000000 ≤ y ∧ y ≤ 1000000) ∧ (-1000000 ≤ z ∧ z ≤ 1000000) := by
  unfold okB veqB
  have hx := cc_bd x
  have hy := cc_bd y
  have hz := cc_bd z
  simp only [Bool.and_eq_true, beq_iff_eq]
  constructor
  · rintro ⟨⟨h1, h2⟩, h3⟩
    omega
  · rintro ⟨⟨a1, a2⟩, ⟨b1, b2⟩, c1, c2⟩
    exact ⟨⟨(cc_in a1 a2).symm, (cc_in b1 b2).symm⟩, (cc_in c1 c2).symm⟩
theorem veq_in (a b c d e f : Int) (w : World) : (Op.equalIn 10000 24 (vec a b c) (vec d e f)).run Try.prog w = .ok (veqB a b c d e f) w := by
  have u3 := Try.underlying3
  have a3 := Try.isAgg3
  have z3 := Try.sizeOf3
  have hS : Try.prog.underlying 24 = some (.struct (Try.prog.fieldsOf 24)) := by kernel_rfl
  have hp : Try.prog.stoodInHeld 24 = false := by kernel_rfl
  rw [show (10000 : Nat) = 9999 + 1 from rfl, run_equalIn_agg w 9999 24 _ _ hS hp]
  simp only [Program.fieldsOf, Try.underlying24]
  unfold veqB
  go_simp
  by_cases h1 : a = d <;> by_cases h2 : b = e <;> by_cases h3 : c = f <;> simp [h1, h2, h3]
theorem veq_run (a b c d e f : Int) (w : World) : (binOp .eql 24 (vec a b c) (vec d e f)).run Try.prog w = .ok (.bool (veqB a b c d e f)) w := by
  rw [run_eql_struct, veq_in]; rfl
theorem mul_bd {a b m n : Int} (ha : -m ≤ a ∧ a ≤ m) (hb : -n ≤ b ∧ b ≤ n) : -(m * n) ≤ a * b ∧ a * b ≤ m * n := by
  have h : (a.natAbs : Int) * (b.natAbs : Int) ≤ m * n := Int.mul_le_mul (by omega) (by omega) (by omega) (by omega)
  have e : ((a * b).natAbs : Int) = (a.natAbs : Int) * (b.natAbs : Int) := by rw [Int.natAbs_mul]; simp
  omega
theorem cc_mul (a b : Int) : -1000000000000 ≤ cc a * cc b ∧ cc a * cc b ≤ 1000000000000 := by
  have h0 := cc_bd a
  have h1 := cc_bd b
  have := mul_bd (a := cc a) (b := cc b) (m := 1000000) (n := 1000000) (by omega) (by omega)
  omega
theorem cc_times (k a : Int) (h0 : -4096 ≤ k) (h1 : k ≤ 4096) : -4096000000 ≤ k * cc a ∧ k * cc a ≤ 4096000000 := by
  have h2 := cc_bd a
  have := mul_bd (a := k) (b := cc a) (m := 4096) (n := 1000000) (by omega) (by omega)
  omega

theorem wrap_in {a : Int} (h : -4611686018427387904 ≤ a ∧ a ≤ 4611686018427387903) : IntKind.i64.wrap a = a := IntWalk.i64_in _ (by omega)

/-- one component of an interpolated vector (already clamped ends) -/
def lerpP (a b i n : Int) : Int := if (1 ≤ n ∧ n ≤ 4096) ∧ 0 ≤ i ∧ i ≤ n then fdivP ((n - i) * a + i * b) n else a
def scaleP (a i n : Int) : Int := if (1 ≤ n ∧ n ≤ 4096) ∧ -4096 ≤ i ∧ i ≤ 4096 then cc (fdivP (i * a) n) else a
theorem lerp_bad {i n : Int} (h : ¬ ((1 ≤ n ∧ n ≤ 4096) ∧ 0 ≤ i ∧ i ≤ n)) (a b : Int) : lerpP a b i n = a := if_neg h
theorem lerp_good {i n : Int} (h : (1 ≤ n ∧ n ≤ 4096) ∧ 0 ≤ i ∧ i ≤ n) (a b : Int) : lerpP a b i n = fdivP ((n - i) * a + i * b) n := if_pos h
theorem scale_bad {i n : Int} (h : ¬ ((1 ≤ n ∧ n ≤ 4096) ∧ -4096 ≤ i ∧ i ≤ 4096)) (a : Int) : scaleP a i n = a := if_neg h
theorem scale_good {i n : Int} (h : (1 ≤ n ∧ n ≤ 4096) ∧ -4096 ≤ i ∧ i ≤ 4096) (a : Int) : scaleP a i n = cc (fdivP (i * a) n) := if_pos h
theorem ret_vec {a b c d e f : Int} (h0 : a = d) (h1 : b = e) (h2 : c = f) : Ending.returned (vec a b c) = .returned (vec d e f) := by rw [h0, h1, h2]

set_option maxHeartbeats 400000 in
theorem clampCoord_any (n : Int) (w : World) :
    Calls Try.prog 52 #[.int .i64 n] w fun e w' => e = .returned (.int .i64 (cc n)) ∧ w = w' := by
  go_enter Try.func52, Try.ntmps52
  go_wp2_with (go_at_call 64; refine (clamp_any _ _ _ _).mono ?_; rintro e w' ⟨rfl, rfl⟩)
  go_ret
  exact ⟨rfl, rfl⟩

set_option maxHeartbeats 400000 in
theorem l02N_any (n : Int) (w : World) :
    Calls Try.prog 70 #[.int .i64 n] w fun e w' => e = .returned (.int .i64 (cc n)) ∧ w = w' := by
  go_enter Try.func70, Try.ntmps70
  go_wp2_with (go_at_call 69; refine (sClamp_any _ _ _ _).mono ?_; rintro e w' ⟨rfl, rfl⟩)
  go_ret
  exact ⟨rfl, rfl⟩

set_option maxHeartbeats 1000000 in
theorem clamped_any (x y z : Int) (w : World) :
    Calls Try.prog 66 #[vec x y z] w (VecOut (cc x) (cc y) (cc z) w) := by
  go_enter Try.func66, Try.ntmps66
  go_wp2_with fail
  go_region_held3 (fun w' => w'.cell? ⟨w.heap.size, 0, none⟩ = some (.int .i64 (x)) ∧ w'.cell? ⟨w.heap.size, 1, none⟩ = some (.int .i64 (y)) ∧ w'.cell? ⟨w.heap.size, 2, none⟩ = some (.int .i64 (z))) (go_keep)
    (first | (go_at_call 52; refine (clampCoord_any _ _).mono ?_; rintro e w' ⟨rfl, rfl⟩) )
  go_wp2
  exact bodyPost_ret (v := vec (cc x) (cc y) (cc z)) (by simp [results, Try.results66, go_sem]) rfl ⟨rfl, by go_grown⟩

set_option maxHeartbeats 1000000 in
theorem l02V_any (x y z : Int) (w : World) :
    Calls Try.prog 59 #[vec x y z] w (VecOut (cc x) (cc y) (cc z) w) := by
  go_enter Try.func59, Try.ntmps59
  go_wp2_with fail
  go_region_held3 (fun w' => w'.cell? ⟨w.heap.size, 0, none⟩ = some (.int .i64 (x)) ∧ w'.cell? ⟨w.heap.size, 1, none⟩ = some (.int .i64 (y)) ∧ w'.cell? ⟨w.heap.size, 2, none⟩ = some (.int .i64 (z))) (go_keep)
    (first | (go_at_call 70; refine (l02N_any _ _).mono ?_; rintro e w' ⟨rfl, rfl⟩) )
  go_wp2
  exact bodyPost_ret (v := vec (cc x) (cc y) (cc z)) (by simp [results, Try.results59, go_sem]) rfl ⟨rfl, by go_grown⟩







set_option maxHeartbeats 2000000 in
theorem toVec_any (x y z : Int) (w : World) :
    Calls Try.prog 57 #[vec x y z] w (VecOut x y z w) := by
  go_enter Try.func57, Try.ntmps57
  go_wp2_with fail
  exact bodyPost_ret (v := vec (x) (y) (z)) (by simp [results, Try.results57, go_sem]) rfl ⟨rfl, by go_grown⟩

set_option maxHeartbeats 2000000 in
theorem eqVec_same (x y z : Int) (w : World) :
    Calls Try.prog 47 #[vec x y z, vec x y z] w fun e w' => e = .returned (.bool true) ∧ Below w.heap.size w w' := by
  go_enter Try.func47, Try.ntmps47
  go_wp2_with fail
  go_ret
  exact ⟨rfl, by go_grown⟩


theorem inV_yes (n lo hi : Int) (w : World) (h0 : lo ≤ n) (h1 : n ≤ hi) :
    Calls Try.prog 58 #[.int .i64 n, .int .i64 lo, .int .i64 hi] w fun e w' => e = .returned (.bool true) ∧ w = w' := by
  go_enter Try.func58, Try.ntmps58
  go_wp2_with fail
  go_ret
  exact ⟨rfl, rfl⟩
theorem inV_no (n lo hi : Int) (w : World) (h : ¬ (lo ≤ n ∧ n ≤ hi)) :
    Calls Try.prog 58 #[.int .i64 n, .int .i64 lo, .int .i64 hi] w fun e w' => e = .returned (.bool false) ∧ w = w' := by
  by_cases h0 : lo ≤ n
  · have h1 : ¬ n ≤ hi := by omega
    clear h
    go_enter Try.func58, Try.ntmps58
    go_wp2_with fail
    go_ret
    exact ⟨rfl, rfl⟩
  · have h1 : decide (lo ≤ n) = false := by simpa using h0
    clear h
    go_enter Try.func58, Try.ntmps58
    go_wp2_with fail
    go_ret
    exact ⟨rfl, rfl⟩

theorem l01Min_any (a b : Int) (w : World) :
    Calls Try.prog 71 #[.int .i64 a, .int .i64 b] w fun e w' => e = .returned (.int .i64 (mnP a b)) ∧ w = w' := by
  go_enter Try.func71, Try.ntmps71
  go_wp2_with fail
  all_goals
    go_ret
    exact ⟨ret_int (by unfold mnP; split <;> omega), rfl⟩

theorem l01Max_any (a b : Int) (w : World) :
    Calls Try.prog 72 #[.int .i64 a, .int .i64 b] w fun e w' => e = .returned (.int .i64 (mxP a b)) ∧ w = w' := by
  go_enter Try.func72, Try.ntmps72
  go_wp2_with fail
  all_goals
    go_ret
    exact ⟨ret_int (by unfold mxP; split <;> omega), rfl⟩

end Go.Proofs.Ytjjafbcfmijppaa
