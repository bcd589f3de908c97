/- Contracts of the vector functions of chapter 3 and of their model: clamping, adding, scaling, comparing. -/
import Derived.Test.YtolinlcihddkoabProg
import Derived.Test.YtolinlcihddkoabInts
import Derived.Test.YtolinlcihddkoabVbox
import Derived.WalkKit
import Derived.WalkSpells
import Derived.WalkLawsBesides
import Derived.Lib.Hide
import Derived.Deep.RegionHeld3
import Derived.Deep.QuietTactic
import Derived.BigQuiet
import Derived.Handy
import Derived.Deep.DeepCutAuto
import Derived.Laws.StructEq
import Derived.IntWalk
namespace Go.Proofs.Ytolinlcihddkoab
open Go.RowKit

abbrev vec (x y z : Int) : Value := .agg #[.int .i64 x, .int .i64 y, .int .i64 z]
/-- a coordinate, clamped -/
def cc (n : Int) : Int := clampP n (-1000000) 1000000
theorem cc_bd (n : Int) : -1000000 ≤ cc n ∧ cc n ≤ 1000000 := clampP_bd n _ _ (by omega)
theorem cc_in {n : Int} (h0 : -1000000 ≤ n) (h1 : n ≤ 1000000) : cc n = n := by unfold cc clampP; split <;> (try split) <;> omega
/-- the lesser and the greater of two -/
def mnP (a b : Int) : Int := if b < a then b else a
def mxP (a b : Int) : Int := if a < b then b else a
def VecOut (x y z : Int) (w : World) (e : Ending) (w' : World) : Prop := e = .returned (vec x y z) ∧ Below w.heap.size w w'
/-- two vectors are equal -/
def veqB (a b c d e f : Int) : Bool := a == d && b == e && c == f
/-- a vector is in range -/
def okB (x y z : Int) : Bool := veqB x y z (cc x) (cc y) (cc z)
theorem okB_iff (x y z : Int) : okB x y z = true ↔ (-1000000 ≤ x ∧ x ≤ 1000000) ∧ (-1000000 ≤ y ∧ y ≤ 1000000) ∧ (-1000000 ≤ z ∧ z ≤ 1000000) := by
  unfold okB veqB
  have hx := cc_bd x
  have hy := cc_bd y
  have hz := cc_bd z
  simp only [Bool.and_eq_true, beq_iff_eq]
  constructor
  · rintro ⟨⟨h1, h2⟩, h3⟩
    omega
  · rintro ⟨⟨a1, a2⟩, ⟨b1, b2⟩, c1, c2⟩
    exact ⟨⟨(cc_in a1 a2).symm, (cc_in b1 b2).symm⟩, (cc_in c1 c2).symm⟩
theorem veq_in (a b c d e f : Int) (w : World) : (Op.equalIn 10000 27 (vec a b c) (vec d e f)).run Try.prog w = .ok (veqB a b c d e f) w := by
  have u3 := Try.underlying3
  have a3 := Try.isAgg3
  have z3 := Try.sizeOf3
  have hS : Try.prog.underlying 27 = some (.struct (Try.prog.fieldsOf 27)) := by kernel_rfl
  have hp : Try.prog.stoodInHeld 27 = false := by kernel_rfl
  rw [show (10000 : Nat) = 9999 + 1 from rfl, run_equalIn_agg w 9999 27 _ _ hS hp]
  simp only [Program.fieldsOf, Try.underlying27]
  unfold veqB
  go_simp
  by_cases h1 : a = d <;> by_cases h2 : b = e <;> by_cases h3 : c = f <;> simp [h1, h2, h3]
theorem veq_run (a b c d e f : Int) (w : World) : (binOp .eql 27 (vec a b c) (vec d e f)).run Try.prog w = .ok (.bool (veqB a b c d e f)) w := by
  rw [run_eql_struct, veq_in]; rfl
theorem mul_bd {a b m n : Int} (ha : -m ≤ a ∧ a ≤ m) (hb : -n ≤ b ∧ b ≤ n) : -(m * n) ≤ a * b ∧ a * b ≤ m * n := by
  have h : (a.natAbs : Int) * (b.natAbs : Int) ≤ m * n := Int.mul_le_mul (by omega) (by omega) (by omega) (by omega)
  have e : ((a * b).natAbs : Int) = (a.natAbs : Int) * (b.natAbs : Int) := by rw [Int.natAbs_mul]; simp
  omega
theorem cc_mul (a b : Int) : -1000000000000 ≤ cc a * cc b ∧ cc a * cc b ≤ 1000000000000 := by
  have h0 := cc_bd a
  have h1 := cc_bd b
  have := mul_bd (a := cc a) (b := cc b) (m := 1000000) (n := 1000000) (by omega) (by omega)
  omega
theorem cc_times (k a : Int) (h0 : -4096 ≤ k) (h1 : k ≤ 4096) : -4096000000 ≤ k * cc a ∧ k * cc a ≤ 4096000000 := by
  have h2 := cc_bd a
  have := mul_bd (a := k) (b := cc a) (m := 4096) (n := 1000000) (by omega) (by omega)
  omega

theorem wrap_in {a : Int} (h : -4611686018427387904 ≤ a ∧ a ≤ 4611686018427387903) : IntKind.i64.wrap a = a := IntWalk.i64_in _ (by omega)

/-- one component of an interpolated vector (already clamped ends) -/
def lerpP (a b i n : Int) : Int := if (1 ≤ n ∧ n ≤ 4096) ∧ 0 ≤ i ∧ i ≤ n then fdivP ((n - i) * a + i * b) n else a
def scaleP (a i n : Int) : Int := if (1 ≤ n ∧ n ≤ 4096) ∧ -4096 ≤ i ∧ i ≤ 4096 then cc (fdivP (i * a) n) else a
theorem lerp_bad {i n : Int} (h : ¬ ((1 ≤ n ∧ n ≤ 4096) ∧ 0 ≤ i ∧ i ≤ n)) (a b : Int) : lerpP a b i n = a := if_neg h
theorem lerp_good {i n : Int} (h : (1 ≤ n ∧ n ≤ 4096) ∧ 0 ≤ i ∧ i ≤ n) (a b : Int) : lerpP a b i n = fdivP ((n - i) * a + i * b) n := if_pos h
theorem scale_bad {i n : Int} (h : ¬ ((1 ≤ n ∧ n ≤ 4096) ∧ -4096 ≤ i ∧ i ≤ 4096)) (a : Int) : scaleP a i n = a := if_neg h
theorem scale_good {i n : Int} (h : (1 ≤ n ∧ n ≤ 4096) ∧ -4096 ≤ i ∧ i ≤ 4096) (a : Int) : scaleP a i n = cc (fdivP (i * a) n) := if_pos h
theorem ret_vec {a b c d e f : Int} (h0 : a = d) (h1 : b = e) (h2 : c = f) : Ending.returned (vec a b c) = .returned (vec d e f) := by rw [h0, h1, h2]

set_option maxHeartbeats 400000 in
theorem clampCoord_any (n : Int) (w : World) :
    Calls Try.prog 35 #[.int .i64 n] w fun e w' => e = .returned (.int .i64 (cc n)) ∧ w = w' := by
  go_enter Try.func35, Try.ntmps35
  go_wp2_with (go_at_call 38; refine (clamp_any _ _ _ _).mono ?_; rintro e w' ⟨rfl, rfl⟩)
  go_ret
  exact ⟨rfl, rfl⟩


set_option maxHeartbeats 1000000 in
theorem clamped_any (x y z : Int) (w : World) :
    Calls Try.prog 24 #[vec x y z] w (VecOut (cc x) (cc y) (cc z) w) := by
  go_enter Try.func24, Try.ntmps24
  go_wp2_with fail
  go_region_held3 (fun w' => w'.cell? ⟨w.heap.size, 0, none⟩ = some (.int .i64 (x)) ∧ w'.cell? ⟨w.heap.size, 1, none⟩ = some (.int .i64 (y)) ∧ w'.cell? ⟨w.heap.size, 2, none⟩ = some (.int .i64 (z))) (go_keep)
    (first | (go_at_call 35; refine (clampCoord_any _ _).mono ?_; rintro e w' ⟨rfl, rfl⟩) )
  go_wp2
  exact bodyPost_ret (v := vec (cc x) (cc y) (cc z)) (by simp [results, Try.results24, go_sem]) rfl ⟨rfl, by go_grown⟩


set_option maxHeartbeats 1000000 in
theorem plus_any (x y z p q r : Int) (w : World) (l0 : -4611686018427387904 ≤ x + p) (u0 : x + p ≤ 4611686018427387903) (l1 : -4611686018427387904 ≤ y + q) (u1 : y + q ≤ 4611686018427387903) (l2 : -4611686018427387904 ≤ z + r) (u2 : z + r ≤ 4611686018427387903) :
    Calls Try.prog 17 #[vec x y z, vec p q r] w (VecOut (x + p) (y + q) (z + r) w) := by
  go_enter Try.func17, Try.ntmps17
  go_wp2_with fail
  exact bodyPost_ret (v := vec (x + p) (y + q) (z + r)) (by simp [results, Try.results17, go_sem]) rfl ⟨rfl, by go_grown⟩


set_option maxHeartbeats 1000000 in
theorem times_any (x y z k : Int) (w : World) (l0 : -4611686018427387904 ≤ k * x) (u0 : k * x ≤ 4611686018427387903) (l1 : -4611686018427387904 ≤ k * y) (u1 : k * y ≤ 4611686018427387903) (l2 : -4611686018427387904 ≤ k * z) (u2 : k * z ≤ 4611686018427387903) :
    Calls Try.prog 16 #[vec x y z, .int .i64 k] w (VecOut (k * x) (k * y) (k * z) w) := by
  go_enter Try.func16, Try.ntmps16
  go_wp2_with fail
  exact bodyPost_ret (v := vec (k * x) (k * y) (k * z)) (by simp [results, Try.results16, go_sem]) rfl ⟨rfl, by go_grown⟩

set_option maxHeartbeats 1000000 in
theorem over_any (x y z n : Int) (w : World) (l0 : -4611686018427387904 ≤ x) (u0 : x ≤ 4611686018427387903) (l1 : -4611686018427387904 ≤ y) (u1 : y ≤ 4611686018427387903) (l2 : -4611686018427387904 ≤ z) (u2 : z ≤ 4611686018427387903) :
    Calls Try.prog 18 #[vec x y z, .int .i64 n] w (VecOut (fdivP x n) (fdivP y n) (fdivP z n) w) := by
  go_enter Try.func18, Try.ntmps18
  go_wp2_with fail
  go_region_held3 (fun w' => w'.cell? ⟨w.heap.size, 0, none⟩ = some (.int .i64 (x)) ∧ w'.cell? ⟨w.heap.size, 1, none⟩ = some (.int .i64 (y)) ∧ w'.cell? ⟨w.heap.size, 2, none⟩ = some (.int .i64 (z))) (go_keep)
    (first | (go_at_call 25; refine (floorDiv_any _ _ _ (by omega) (by omega)).mono ?_; rintro e w' ⟨rfl, rfl⟩) )
  go_wp2
  exact bodyPost_ret (v := vec (fdivP x n) (fdivP y n) (fdivP z n)) (by simp [results, Try.results18, go_sem]) rfl ⟨rfl, by go_grown⟩

set_option maxHeartbeats 2000000 in
theorem isValidVec_any (x y z : Int) (w : World) :
    Calls Try.prog 28 #[vec x y z] w fun e w' => e = .returned (.bool (okB x y z)) ∧ Below w.heap.size w w' := by
  have e1 := veq_in x y z (cc x) (cc y) (cc z)
  have e2 := veq_run x y z (cc x) (cc y) (cc z)
  go_enter Try.func28, Try.ntmps28
  go_wp2_with fail
  go_region_held3 (fun w' => w.heap.size + 1 ≤ w'.heap.size ∧ w'.cell? ⟨w.heap.size, 0, none⟩ = some (.int .i64 (x)) ∧ w'.cell? ⟨w.heap.size, 1, none⟩ = some (.int .i64 (y)) ∧ w'.cell? ⟨w.heap.size, 2, none⟩ = some (.int .i64 (z)))
    (first | (go_split_ands; have hsz := hb1.size; with_reducible exact ⟨by omega, ((bcell hb1).1 _ _ (by omega)).trans (by assumption), ((bcell hb1).1 _ _ (by omega)).trans (by assumption), ((bcell hb1).1 _ _ (by omega)).trans (by assumption)⟩) | (go_split_ands; with_reducible exact ⟨size3 (by assumption), (far3 (by omega)).trans (by assumption), (far3 (by omega)).trans (by assumption), (far3 (by omega)).trans (by assumption)⟩) | (go_keep; done))
    (first | (go_at_call 24; refine (clamped_any _ _ _ _).mono ?_; rintro e w1 ⟨rfl, hb1⟩; have HB : Below w.heap.size w w1 := Below.trans (by first | assumption | (go_grown; done)) (hb1.mono (by go_split_ands; omega))) )
  go_wp2
  go_ret
  exact ⟨rfl, by go_grown⟩








end Go.Proofs.Ytolinlcihddkoab
