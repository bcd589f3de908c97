/- Contracts of the vector functions of chapter 3 and of their model: clamping, adding, scaling, comparing. -/
import Derived.Test.YtbgpcgimmiinbaaProg
import Derived.Test.YtbgpcgimmiinbaaInts
import Derived.Test.YtbgpcgimmiinbaaVbox
import Derived.WalkKit
import Derived.WalkSpells
import Derived.WalkLawsBesides
import Derived.Lib.Hide
import Derived.Deep.RegionHeld3
import Derived.Deep.QuietTactic
import Derived.BigQuiet
import Derived.Handy
import Derived.Deep.DeepCutAuto
import Derived.Laws.StructEq
import Derived.IntWalk
namespace Go.Proofs.Ytbgpcgimmiinbaa
open Go.RowKit

abbrev vec (x y z : Int) : Value := .agg #[.int .i64 x, .int .i64 y, .int .i64 z]
/-- a coordinate, clamped -/
def cc (n : Int) : Int := clampP n (-1000000) 1000000
theorem cc_bd (n : Int) : -1000000 ≤ cc n ∧ cc n ≤ 1000000 := clampP_bd n _ _ (by omega)
theorem cc_in {n : Int} (h0 : -1000000 ≤ n) (h1 : n ≤ 1000000) : cc n = n := by unfold cc clampP; split <;> (try split) <;> omega
/-- the lesser and the greater of two -/
def mnP (a b : Int) : Int := if b < a then b else a
def mxP (a b : Int) : Int := if a < b then b else a
def VecOut (x y z : Int) (w : World) (e : Ending) (w' : World) : Prop := e = .returned (vec x y z) ∧ Below w.heap.size w w'
/-- two vectors are equal -/
def veqB (a b c d e f : Int) : Bool := a == d && b == e && c == f
/-- a vector is in range -/
def okB (x y z : Int) : Bool := veqB x y z (cc x) (cc y) (cc z)
theorem okB_iff (x y z : Int) : okB x y z = true ↔ (-1000000 ≤ x ∧ x ≤ 1000000) ∧ (-1000000 ≤ y ∧ y ≤ 1000000) ∧ (-1000000 ≤ z ∧ z ≤ 1000000) := by
  unfold okB veqB
  have hx := cc_bd x
  have hy := cc_bd y
  have hz := cc_bd z
  simp only [Bool.and_eq_true, beq_iff_eq]
  constructor
  · rintro ⟨⟨h1, h2⟩, h3⟩
    omega
  · rintro ⟨⟨a1, a2⟩, ⟨b1, b2⟩, c1, c2⟩
    exact ⟨⟨(cc_in a1 a2).symm, (cc_in b1 b2).symm⟩, (cc_in c1 c2).symm⟩
theorem veq_in (a b c d e f : Int) (w : World) : (Op.equalIn 10000 37 (vec a b c) (vec d e f)).run Try.prog w = .ok (veqB a b c d e f) w := by
  have u3 := Try.underlying3
  have a3 := Try.isAgg3
  have z3 := Try.sizeOf3
  have hS : Try.prog.underlying 37 = some (.struct (Try.prog.fieldsOf 37)) := by kernel_rfl
  have hp : Try.prog.stoodInHeld 37 = false := by kernel_rfl
  rw [show (10000 : Nat) = 9999 + 1 from rfl, run_equalIn_agg w 9999 37 _ _ hS hp]
  simp only [Program.fieldsOf, Try.underlying37]
  unfold veqB
  go_simp
  by_cases h1 : a = d <;> by_cases h2 : b = e <;> by_cases h3 : c = f <;> simp [h1, h2, h3]
theorem veq_run (a b c d e f : Int) (w : World) : (binOp .eql 37 (vec a b c) (vec d e f)).run Try.prog w = .ok (.bool (veqB a b c d e f)) w := by
  rw [run_eql_struct, veq_in]; rfl
theorem mul_bd {a b m n : Int} (ha : -m ≤ a ∧ a ≤ m) (hb : -n ≤ b ∧ b ≤ n) : -(m * n) ≤ a * b ∧ a * b ≤ m * n := by
  have h : (a.natAbs : Int) * (b.natAbs : Int) ≤ m * n := Int.mul_le_mul (by omega) (by omega) (by omega) (by omega)
  have e : ((a * b).natAbs : Int) = (a.natAbs : Int) * (b.natAbs : Int) := by rw [Int.natAbs_mul]; simp
  omega
theorem cc_mul (a b : Int) : -1000000000000 ≤ cc a * cc b ∧ cc a * cc b ≤ 1000000000000 := by
  have h0 := cc_bd a
  have h1 := cc_bd b
  have := mul_bd (a := cc a) (b := cc b) (m := 1000000) (n := 1000000) (by omega) (by omega)
  omega
theorem cc_times (k a : Int) (h0 : -4096 ≤ k) (h1 : k ≤ 4096) : -4096000000 ≤ k * cc a ∧ k * cc a ≤ 4096000000 := by
  have h2 := cc_bd a
  have := mul_bd (a := k) (b := cc a) (m := 4096) (n := 1000000) (by omega) (by omega)
  omega

theorem wrap_in {a : Int} (h : -4611686018427387904 ≤ a ∧ a ≤ 4611686018427387903) : IntKind.i64.wrap a = a := IntWalk.i64_in _ (by omega)

/-- one component of an interpolated vector (already clamped ends) -/
def lerpP (a b i n : Int) : Int := if (1 ≤ n ∧ n ≤ 4096) ∧ 0 ≤ i ∧ i ≤ n then fdivP ((n - i) * a + i * b) n else a
def scaleP (a i n : Int) : Int := if (1 ≤ n ∧ n ≤ 4096) ∧ -4096 ≤ i ∧ i ≤ 4096 then cc (fdivP (i * a) n) else a
theorem lerp_bad {i n : Int} (h : ¬ ((1 ≤ n ∧ n ≤ 4096) ∧ 0 ≤ i ∧ i ≤ n)) (a b : Int) : lerpP a b i n = a := if_neg h
theorem lerp_good {i n : Int} (h : (1 ≤ n ∧ n ≤ 4096) ∧ 0 ≤ i ∧ i ≤ n) (a b : Int) : lerpP a b i n = fdivP ((n - i) * a + i * b) n := if_pos h
theorem scale_bad {i n : Int} (h : ¬ ((1 ≤ n ∧ n ≤ 4096) ∧ -4096 ≤ i ∧ i ≤ 4096)) (a : Int) : scaleP a i n = a := if_neg h
theorem scale_good {i n : Int} (h : (1 ≤ n ∧ n ≤ 4096) ∧ -4096 ≤ i ∧ i ≤ 4096) (a : Int) : scaleP a i n = cc (fdivP (i * a) n) := if_pos h
theorem ret_vec {a b c d e f : Int} (h0 : a = d) (h1 : b = e) (h2 : c = f) : Ending.returned (vec a b c) = .returned (vec d e f) := by rw [h0, h1, h2]

set_option maxHeartbeats 400000 in
theorem clampCoord_any (n : Int) (w : World) :
    Calls Try.prog 77 #[.int .i64 n] w fun e w' => e = .returned (.int .i64 (cc n)) ∧ w = w' := by
  go_enter Try.func77, Try.ntmps77
  go_wp2_with (go_at_call 73; refine (clamp_any _ _ _ _).mono ?_; rintro e w' ⟨rfl, rfl⟩)
  go_ret
  exact ⟨rfl, rfl⟩

set_option maxHeartbeats 400000 in
theorem l02N_any (n : Int) (w : World) :
    Calls Try.prog 78 #[.int .i64 n] w fun e w' => e = .returned (.int .i64 (cc n)) ∧ w = w' := by
  go_enter Try.func78, Try.ntmps78
  go_wp2_with (go_at_call 71; refine (sClamp_any _ _ _ _).mono ?_; rintro e w' ⟨rfl, rfl⟩)
  go_ret
  exact ⟨rfl, rfl⟩

set_option maxHeartbeats 1000000 in
theorem clamped_any (x y z : Int) (w : World) :
    Calls Try.prog 65 #[vec x y z] w (VecOut (cc x) (cc y) (cc z) w) := by
  go_enter Try.func65, Try.ntmps65
  go_wp2_with fail
  go_region_held3 (fun w' => w'.cell? ⟨w.heap.size, 0, none⟩ = some (.int .i64 (x)) ∧ w'.cell? ⟨w.heap.size, 1, none⟩ = some (.int .i64 (y)) ∧ w'.cell? ⟨w.heap.size, 2, none⟩ = some (.int .i64 (z))) (go_keep)
    (first | (go_at_call 77; refine (clampCoord_any _ _).mono ?_; rintro e w' ⟨rfl, rfl⟩) )
  go_wp2
  exact bodyPost_ret (v := vec (cc x) (cc y) (cc z)) (by simp [results, Try.results65, go_sem]) rfl ⟨rfl, by go_grown⟩

set_option maxHeartbeats 1000000 in
theorem l02V_any (x y z : Int) (w : World) :
    Calls Try.prog 74 #[vec x y z] w (VecOut (cc x) (cc y) (cc z) w) := by
  go_enter Try.func74, Try.ntmps74
  go_wp2_with fail
  go_region_held3 (fun w' => w'.cell? ⟨w.heap.size, 0, none⟩ = some (.int .i64 (x)) ∧ w'.cell? ⟨w.heap.size, 1, none⟩ = some (.int .i64 (y)) ∧ w'.cell? ⟨w.heap.size, 2, none⟩ = some (.int .i64 (z))) (go_keep)
    (first | (go_at_call 78; refine (l02N_any _ _).mono ?_; rintro e w' ⟨rfl, rfl⟩) )
  go_wp2
  exact bodyPost_ret (v := vec (cc x) (cc y) (cc z)) (by simp [results, Try.results74, go_sem]) rfl ⟨rfl, by go_grown⟩

set_option maxHeartbeats 1000000 in
theorem plus_any (x y z p q r : Int) (w : World) (l0 : -4611686018427387904 ≤ x + p) (u0 : x + p ≤ 4611686018427387903) (l1 : -4611686018427387904 ≤ y + q) (u1 : y + q ≤ 4611686018427387903) (l2 : -4611686018427387904 ≤ z + r) (u2 : z + r ≤ 4611686018427387903) :
    Calls Try.prog 68 #[vec x y z, vec p q r] w (VecOut (x + p) (y + q) (z + r) w) := by
  go_enter Try.func68, Try.ntmps68
  go_wp2_with fail
  exact bodyPost_ret (v := vec (x + p) (y + q) (z + r)) (by simp [results, Try.results68, go_sem]) rfl ⟨rfl, by go_grown⟩


set_option maxHeartbeats 1000000 in
theorem times_any (x y z k : Int) (w : World) (l0 : -4611686018427387904 ≤ k * x) (u0 : k * x ≤ 4611686018427387903) (l1 : -4611686018427387904 ≤ k * y) (u1 : k * y ≤ 4611686018427387903) (l2 : -4611686018427387904 ≤ k * z) (u2 : k * z ≤ 4611686018427387903) :
    Calls Try.prog 67 #[vec x y z, .int .i64 k] w (VecOut (k * x) (k * y) (k * z) w) := by
  go_enter Try.func67, Try.ntmps67
  go_wp2_with fail
  exact bodyPost_ret (v := vec (k * x) (k * y) (k * z)) (by simp [results, Try.results67, go_sem]) rfl ⟨rfl, by go_grown⟩

set_option maxHeartbeats 1000000 in
theorem over_any (x y z n : Int) (w : World) (l0 : -4611686018427387904 ≤ x) (u0 : x ≤ 4611686018427387903) (l1 : -4611686018427387904 ≤ y) (u1 : y ≤ 4611686018427387903) (l2 : -4611686018427387904 ≤ z) (u2 : z ≤ 4611686018427387903) :
    Calls Try.prog 69 #[vec x y z, .int .i64 n] w (VecOut (fdivP x n) (fdivP y n) (fdivP z n) w) := by
  go_enter Try.func69, Try.ntmps69
  go_wp2_with fail
  go_region_held3 (fun w' => w'.cell? ⟨w.heap.size, 0, none⟩ = some (.int .i64 (x)) ∧ w'.cell? ⟨w.heap.size, 1, none⟩ = some (.int .i64 (y)) ∧ w'.cell? ⟨w.heap.size, 2, none⟩ = some (.int .i64 (z))) (go_keep)
    (first | (go_at_call 43; refine (floorDiv_any _ _ _ (by omega) (by omega)).mono ?_; rintro e w' ⟨rfl, rfl⟩) )
  go_wp2
  exact bodyPost_ret (v := vec (fdivP x n) (fdivP y n) (fdivP z n)) (by simp [results, Try.results69, go_sem]) rfl ⟨rfl, by go_grown⟩



set_option maxHeartbeats 2000000 in
theorem toVec_any (x y z : Int) (w : World) :
    Calls Try.prog 75 #[vec x y z] w (VecOut x y z w) := by
  go_enter Try.func75, Try.ntmps75
  go_wp2_with fail
  exact bodyPost_ret (v := vec (x) (y) (z)) (by simp [results, Try.results75, go_sem]) rfl ⟨rfl, by go_grown⟩

set_option maxHeartbeats 2000000 in
theorem eqVec_same (x y z : Int) (w : World) :
    Calls Try.prog 76 #[vec x y z, vec x y z] w fun e w' => e = .returned (.bool true) ∧ Below w.heap.size w w' := by
  go_enter Try.func76, Try.ntmps76
  go_wp2_with fail
  go_ret
  exact ⟨rfl, by go_grown⟩

theorem den_yes (n : Int) (w : World) (h0 : 1 ≤ n) (h1 : n ≤ 4096) :
    Calls Try.prog 66 #[.int .i64 n] w fun e w' => e = .returned (.bool true) ∧ w = w' := by
  go_enter Try.func66, Try.ntmps66
  go_wp2_with fail
  go_ret
  exact ⟨rfl, rfl⟩
theorem den_no (n : Int) (w : World) (h : ¬ (1 ≤ n ∧ n ≤ 4096)) :
    Calls Try.prog 66 #[.int .i64 n] w fun e w' => e = .returned (.bool false) ∧ w = w' := by
  by_cases h0 : 1 ≤ n
  · have h1 : ¬ n ≤ 4096 := by omega
    clear h
    go_enter Try.func66, Try.ntmps66
    go_wp2_with fail
    go_ret
    exact ⟨rfl, rfl⟩
  · have h1 : decide (1 ≤ n) = false := by simpa using h0
    clear h
    go_enter Try.func66, Try.ntmps66
    go_wp2_with fail
    go_ret
    exact ⟨rfl, rfl⟩

theorem inV_yes (n lo hi : Int) (w : World) (h0 : lo ≤ n) (h1 : n ≤ hi) :
    Calls Try.prog 57 #[.int .i64 n, .int .i64 lo, .int .i64 hi] w fun e w' => e = .returned (.bool true) ∧ w = w' := by
  go_enter Try.func57, Try.ntmps57
  go_wp2_with fail
  go_ret
  exact ⟨rfl, rfl⟩
theorem inV_no (n lo hi : Int) (w : World) (h : ¬ (lo ≤ n ∧ n ≤ hi)) :
    Calls Try.prog 57 #[.int .i64 n, .int .i64 lo, .int .i64 hi] w fun e w' => e = .returned (.bool false) ∧ w = w' := by
  by_cases h0 : lo ≤ n
  · have h1 : ¬ n ≤ hi := by omega
    clear h
    go_enter Try.func57, Try.ntmps57
    go_wp2_with fail
    go_ret
    exact ⟨rfl, rfl⟩
  · have h1 : decide (lo ≤ n) = false := by simpa using h0
    clear h
    go_enter Try.func57, Try.ntmps57
    go_wp2_with fail
    go_ret
    exact ⟨rfl, rfl⟩



end Go.Proofs.Ytbgpcgimmiinbaa
