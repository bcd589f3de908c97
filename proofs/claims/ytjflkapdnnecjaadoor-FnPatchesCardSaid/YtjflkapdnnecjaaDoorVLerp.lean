/- Contracts of Lerp: the program and its model. -/
import Derived.Test.YtjflkapdnnecjaaDoorProg
import Derived.Test.YtjflkapdnnecjaaDoorInts
import Derived.Test.YtjflkapdnnecjaaDoorVbox
import Derived.Test.YtjflkapdnnecjaaDoorVec
import Derived.WalkKit
import Derived.WalkSpells
import Derived.WalkLawsBesides
import Derived.Lib.Hide
import Derived.Deep.RegionHeld3
import Derived.Deep.QuietTactic
import Derived.BigQuiet
import Derived.Handy
import Derived.Deep.DeepCutAuto
import Derived.Laws.StructEq
namespace Go.Proofs.YtjflkapdnnecjaaDoor
open Go.RowKit

set_option maxHeartbeats 4000000 in
theorem lerp_any (x y z p q r i n : Int) (w : World) :
    Calls Tryd.prog 63 #[vec x y z, vec p q r, .int .i64 i, .int .i64 n] w (VecOut (lerpP (cc x) (cc p) i n) (lerpP (cc y) (cc q) i n) (lerpP (cc z) (cc r) i n) w) := by
  have HA : Vbox (((w.alloc (.cells #[.int .i64 x, .int .i64 y, .int .i64 z] 24)).alloc (.cells #[.int .i64 p, .int .i64 q, .int .i64 r] 24)).alloc (.cells #[.int .i64 0, .int .i64 0, .int .i64 0] 24)).drew w.heap.size x y z := ((Vbox.new w x y z _).alloc _).alloc _
  have HB : Vbox (((w.alloc (.cells #[.int .i64 x, .int .i64 y, .int .i64 z] 24)).alloc (.cells #[.int .i64 p, .int .i64 q, .int .i64 r] 24)).alloc (.cells #[.int .i64 0, .int .i64 0, .int .i64 0] 24)).drew (w.heap.size + 1) p q r := (Vbox.new1 w _ p q r _).alloc _
  have HR : Vbox (((w.alloc (.cells #[.int .i64 x, .int .i64 y, .int .i64 z] 24)).alloc (.cells #[.int .i64 p, .int .i64 q, .int .i64 r] 24)).alloc (.cells #[.int .i64 0, .int .i64 0, .int .i64 0] 24)).drew (w.heap.size + 2) 0 0 0 := Vbox.new2 w _ _ 0 0 0 _
  have HW : Below w.heap.size w (((w.alloc (.cells #[.int .i64 x, .int .i64 y, .int .i64 z] 24)).alloc (.cells #[.int .i64 p, .int .i64 q, .int .i64 r] 24)).alloc (.cells #[.int .i64 0, .int .i64 0, .int .i64 0] 24)).drew := by go_grown
  have hz : w.heap.size ≤ (((w.alloc (.cells #[.int .i64 x, .int .i64 y, .int .i64 z] 24)).alloc (.cells #[.int .i64 p, .int .i64 q, .int .i64 r] 24)).alloc (.cells #[.int .i64 0, .int .i64 0, .int .i64 0] 24)).drew.heap.size := by simp; omega
  go_enter Tryd.func63, Tryd.ntmps63
  go_upto_region 1 with fail
  go_cut [4] (fun s wx => s = .pointer (some ⟨w.heap.size, 0, none⟩) ∧ Vbox wx w.heap.size (cc x) (cc y) (cc z) ∧ Vbox wx (w.heap.size + 1) (cc p) (cc q) (cc r) ∧ Vbox wx (w.heap.size + 2) 0 0 0 ∧ Below w.heap.size w wx)
  case first =>
    go_region_with (first | (go_at_call 44; refine (clamped_any _ _ _ _).mono ?_; rintro e w1 ⟨rfl, hb1⟩; have HW := bcall HW hb1 hz; have hz : w.heap.size ≤ w1.heap.size := HW.size; have HA := HA.later hb1; have HB := HB.later hb1; have HR := HR.later hb1; obtain ⟨ha0, ha1, ha2, ga0, ga1, ga2⟩ := id HA; obtain ⟨hb0, hb1, hb2, gb0, gb1, gb2⟩ := id HB))
    all_goals (go_wp2_with fail; go_meet; exact ⟨rfl, (HA.put _ _ _).far3 (by omega) _ _ _, (HB.far3 (by omega) _ _ _).put _ _ _, (HR.far3 (by omega) _ _ _).far3 (by omega) _ _ _, bset3 (bset3 HW (Nat.le_refl _)) (by omega)⟩)
  case rest =>
    clear HA HB HR HW hz
    obtain ⟨rfl, HA, HB, HR, HW⟩ := hcut
    have hz := HW.size
    obtain ⟨a0, a1, a2, fa0, fa1, fa2⟩ := id HA
    obtain ⟨c0, c1, c2, fc0, fc1, fc2⟩ := id HB
    obtain ⟨r0, r1, r2, fr0, fr1, fr2⟩ := id HR

    by_cases hn : 1 ≤ n ∧ n ≤ 4096
    · obtain ⟨n0, n1⟩ := hn
      by_cases hi0 : i < 0
      · have hi0' : decide (i < 0) = true := decide_eq_true hi0
        go_wp2_with (go_at_call 85; refine (den_yes _ _ n0 n1).mono ?_; rintro e w' ⟨rfl, rfl⟩)
        exact bodyPost_ret (v := vec (cc x) (cc y) (cc z)) (by simp [results, Tryd.results63, go_sem, r0, r1, r2]) rfl ⟨ret_vec (lerp_bad (by omega) _ _).symm (lerp_bad (by omega) _ _).symm (lerp_bad (by omega) _ _).symm, bset3 HW (by omega)⟩
      · have hi0' : decide (i < 0) = false := decide_eq_false hi0
        by_cases hi1 : n < i
        · have hi1' : decide (n < i) = true := decide_eq_true hi1
          go_wp2_with (go_at_call 85; refine (den_yes _ _ n0 n1).mono ?_; rintro e w' ⟨rfl, rfl⟩)
          exact bodyPost_ret (v := vec (cc x) (cc y) (cc z)) (by simp [results, Tryd.results63, go_sem, r0, r1, r2]) rfl ⟨ret_vec (lerp_bad (by omega) _ _).symm (lerp_bad (by omega) _ _).symm (lerp_bad (by omega) _ _).symm, bset3 HW (by omega)⟩
        · have hi1' : decide (n < i) = false := decide_eq_false hi1
          have t0 := cc_times (n - i) x (by omega) (by omega)
          have s0 := cc_times i p (by omega) (by omega)
          have t1 := cc_times (n - i) y (by omega) (by omega)
          have s1 := cc_times i q (by omega) (by omega)
          have t2 := cc_times (n - i) z (by omega) (by omega)
          have s2 := cc_times i r (by omega) (by omega)
          have l0 : -4611686018427387904 ≤ (n - i) * cc x := by omega
          have v0 : (n - i) * cc x ≤ 4611686018427387903 := by omega
          have l1 : -4611686018427387904 ≤ (n - i) * cc y := by omega
          have v1 : (n - i) * cc y ≤ 4611686018427387903 := by omega
          have l2 : -4611686018427387904 ≤ (n - i) * cc z := by omega
          have v2 : (n - i) * cc z ≤ 4611686018427387903 := by omega
          have l3 : -4611686018427387904 ≤ i * cc p := by omega
          have v3 : i * cc p ≤ 4611686018427387903 := by omega
          have l4 : -4611686018427387904 ≤ i * cc q := by omega
          have v4 : i * cc q ≤ 4611686018427387903 := by omega
          have l5 : -4611686018427387904 ≤ i * cc r := by omega
          have v5 : i * cc r ≤ 4611686018427387903 := by omega
          have l6 : -4611686018427387904 ≤ (n - i) * cc x + i * cc p := by omega
          have v6 : (n - i) * cc x + i * cc p ≤ 4611686018427387903 := by omega
          have l7 : -4611686018427387904 ≤ (n - i) * cc y + i * cc q := by omega
          have v7 : (n - i) * cc y + i * cc q ≤ 4611686018427387903 := by omega
          have l8 : -4611686018427387904 ≤ (n - i) * cc z + i * cc r := by omega
          have v8 : (n - i) * cc z + i * cc r ≤ 4611686018427387903 := by omega
          go_wp2_with (go_at_call 85; refine (den_yes _ _ n0 n1).mono ?_; rintro e w' ⟨rfl, rfl⟩)
          have HW := HW.drew
          have HR := HR.drew
          have hz : w.heap.size ≤ wc.drew.heap.size := hz
          have hz3 : w.heap.size + 3 ≤ wc.drew.heap.size := by have := HR.lt; omega
          clear r0 r1 r2 fr0 fr1 fr2 fa0 fa1 fa2 fc0 fc1 fc2 hi0' hi1'
          have S0 : w.heap.size + 3 ≤ wc.drew.heap.size ∧ wc.drew.cell? ⟨w.heap.size, 0, none⟩ = some (.int .i64 (cc x)) ∧ wc.drew.cell? ⟨w.heap.size, 1, none⟩ = some (.int .i64 (cc y)) ∧ wc.drew.cell? ⟨w.heap.size, 2, none⟩ = some (.int .i64 (cc z)) ∧ wc.drew.cell? ⟨w.heap.size + 1, 0, none⟩ = some (.int .i64 (cc p)) ∧ wc.drew.cell? ⟨w.heap.size + 1, 1, none⟩ = some (.int .i64 (cc q)) ∧ wc.drew.cell? ⟨w.heap.size + 1, 2, none⟩ = some (.int .i64 (cc r)) := ⟨hz3, a0, a1, a2, c0, c1, c2⟩
          clear a0 a1 a2 c0 c1 c2
          have ew : IntKind.i64.wrap (n - i) = n - i := IntWalk.i64_in _ (by omega)
          go_region_held3 (fun w' => w.heap.size + 3 ≤ w'.heap.size ∧ w'.cell? ⟨w.heap.size, 0, none⟩ = some (.int .i64 (cc x)) ∧ w'.cell? ⟨w.heap.size, 1, none⟩ = some (.int .i64 (cc y)) ∧ w'.cell? ⟨w.heap.size, 2, none⟩ = some (.int .i64 (cc z)) ∧ w'.cell? ⟨w.heap.size + 1, 0, none⟩ = some (.int .i64 (cc p)) ∧ w'.cell? ⟨w.heap.size + 1, 1, none⟩ = some (.int .i64 (cc q)) ∧ w'.cell? ⟨w.heap.size + 1, 2, none⟩ = some (.int .i64 (cc r)))
    (first | (with_reducible exact S0) | (go_split_ands; have hsz := hb1.size; with_reducible exact ⟨by clear ew; omega, ((bcell hb1).1 _ _ (by clear ew; omega)).trans (by assumption), ((bcell hb1).1 _ _ (by clear ew; omega)).trans (by assumption), ((bcell hb1).1 _ _ (by clear ew; omega)).trans (by assumption), ((bcell hb1).1 _ _ (by clear ew; omega)).trans (by assumption), ((bcell hb1).1 _ _ (by clear ew; omega)).trans (by assumption), ((bcell hb1).1 _ _ (by clear ew; omega)).trans (by assumption)⟩) | (go_split_ands; with_reducible exact ⟨size3 (by assumption), (far3 (by clear ew; omega)).trans (by assumption), (far3 (by clear ew; omega)).trans (by assumption), (far3 (by clear ew; omega)).trans (by assumption), (far3 (by clear ew; omega)).trans (by assumption), (far3 (by clear ew; omega)).trans (by assumption), (far3 (by clear ew; omega)).trans (by assumption)⟩) | (go_keep; done))
    (first | (go_at_call 54; refine (times_any _ _ _ _ _ (by assumption) (by assumption) (by assumption) (by assumption) (by assumption) (by assumption)).mono ?_; rintro e w1 ⟨rfl, hb1⟩; have HW : Below w.heap.size w w1 := bcall HW hb1 hz; have hz : w.heap.size ≤ w1.heap.size := HW.size; have HR := HR.later hb1; obtain ⟨hr0, hr1, hr2, gr0, gr1, gr2⟩ := id HR) | (go_at_call 55; refine (plus_any _ _ _ _ _ _ _ (by assumption) (by assumption) (by assumption) (by assumption) (by assumption) (by assumption)).mono ?_; rintro e w1 ⟨rfl, hb1⟩; have HW : Below w.heap.size w w1 := bcall HW hb1 hz; have hz : w.heap.size ≤ w1.heap.size := HW.size; have HR := HR.later hb1; obtain ⟨hr0, hr1, hr2, gr0, gr1, gr2⟩ := id HR) | (go_at_call 48; refine (over_any _ _ _ _ _ (by assumption) (by assumption) (by assumption) (by assumption) (by assumption) (by assumption)).mono ?_; rintro e w1 ⟨rfl, hb1⟩; have HW : Below w.heap.size w w1 := bcall HW hb1 hz; have hz : w.heap.size ≤ w1.heap.size := HW.size; have HR := HR.later hb1; obtain ⟨hr0, hr1, hr2, gr0, gr1, gr2⟩ := id HR) )
          clear ew
          clear S0
          go_wp2
          exact bodyPost_ret (v := vec (fdivP ((n - i) * cc x + i * cc p) n) (fdivP ((n - i) * cc y + i * cc q) n) (fdivP ((n - i) * cc z + i * cc r) n)) (by simp [results, Tryd.results63, go_sem, hr0, hr1, hr2]) rfl ⟨ret_vec (lerp_good (by omega) _ _).symm (lerp_good (by omega) _ _).symm (lerp_good (by omega) _ _).symm, bset3 HW (by omega)⟩
    · go_wp2_with (go_at_call 85; refine (den_no _ _ hn).mono ?_; rintro e w' ⟨rfl, rfl⟩)
      exact bodyPost_ret (v := vec (cc x) (cc y) (cc z)) (by simp [results, Tryd.results63, go_sem, r0, r1, r2]) rfl ⟨ret_vec (lerp_bad (by omega) _ _).symm (lerp_bad (by omega) _ _).symm (lerp_bad (by omega) _ _).symm, bset3 HW (by omega)⟩




end Go.Proofs.YtjflkapdnnecjaaDoor
