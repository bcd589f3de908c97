/- Contracts of Lerp: the program and its model. -/
import Derived.Test.YtbgpcgimmiinbaaProg
import Derived.Test.YtbgpcgimmiinbaaInts
import Derived.Test.YtbgpcgimmiinbaaVbox
import Derived.Test.YtbgpcgimmiinbaaVec
import Derived.WalkKit
import Derived.WalkSpells
import Derived.WalkLawsBesides
import Derived.Lib.Hide
import Derived.Deep.RegionHeld3
import Derived.Deep.QuietTactic
import Derived.BigQuiet
import Derived.Handy
import Derived.Deep.DeepCutAuto
import Derived.Laws.StructEq
namespace Go.Proofs.Ytbgpcgimmiinbaa
open Go.RowKit

set_option maxHeartbeats 4000000 in
theorem lerp_any (x y z p q r i n : Int) (w : World) :
    Calls Try.prog 46 #[vec x y z, vec p q r, .int .i64 i, .int .i64 n] w (VecOut (lerpP (cc x) (cc p) i n) (lerpP (cc y) (cc q) i n) (lerpP (cc z) (cc r) i n) w) := by
  have HA : Vbox (((w.alloc (.cells #[.int .i64 x, .int .i64 y, .int .i64 z] 37)).alloc (.cells #[.int .i64 p, .int .i64 q, .int .i64 r] 37)).alloc (.cells #[.int .i64 0, .int .i64 0, .int .i64 0] 37)).drew w.heap.size x y z := ((Vbox.new w x y z _).alloc _).alloc _
  have HB : Vbox (((w.alloc (.cells #[.int .i64 x, .int .i64 y, .int .i64 z] 37)).alloc (.cells #[.int .i64 p, .int .i64 q, .int .i64 r] 37)).alloc (.cells #[.int .i64 0, .int .i64 0, .int .i64 0] 37)).drew (w.heap.size + 1) p q r := (Vbox.new1 w _ p q r _).alloc _
  have HR : Vbox (((w.alloc (.cells #[.int .i64 x, .int .i64 y, .int .i64 z] 37)).alloc (.cells #[.int .i64 p, .int .i64 q, .int .i64 r] 37)).alloc (.cells #[.int .i64 0, .int .i64 0, .int .i64 0] 37)).drew (w.heap.size + 2) 0 0 0 := Vbox.new2 w _ _ 0 0 0 _
  have HW : Below w.heap.size w (((w.alloc (.cells #[.int .i64 x, .int .i64 y, .int .i64 z] 37)).alloc (.cells #[.int .i64 p, .int .i64 q, .int .i64 r] 37)).alloc (.cells #[.int .i64 0, .int .i64 0, .int .i64 0] 37)).drew := by go_grown
  have hz : w.heap.size ≤ (((w.alloc (.cells #[.int .i64 x, .int .i64 y, .int .i64 z] 37)).alloc (.cells #[.int .i64 p, .int .i64 q, .int .i64 r] 37)).alloc (.cells #[.int .i64 0, .int .i64 0, .int .i64 0] 37)).drew.heap.size := by simp; omega
  go_enter Try.func46, Try.ntmps46
  go_upto_region 1 with fail
  go_cut [4] (fun s wx => s = .pointer (some ⟨w.heap.size, 0, none⟩) ∧ Vbox wx w.heap.size (cc x) (cc y) (cc z) ∧ Vbox wx (w.heap.size + 1) (cc p) (cc q) (cc r) ∧ Vbox wx (w.heap.size + 2) 0 0 0 ∧ Below w.heap.size w wx)
  case first =>
    go_region_with (first | (go_at_call 65; refine (clamped_any _ _ _ _).mono ?_; rintro e w1 ⟨rfl, hb1⟩; have HW := bcall HW hb1 hz; have hz : w.heap.size ≤ w1.heap.size := HW.size; have HA := HA.later hb1; have HB := HB.later hb1; have HR := HR.later hb1; obtain ⟨ha0, ha1, ha2, ga0, ga1, ga2⟩ := id HA; obtain ⟨hb0, hb1, hb2, gb0, gb1, gb2⟩ := id HB))
    all_goals (go_wp2_with fail; go_meet; exact ⟨rfl, (HA.put _ _ _).far3 (by omega) _ _ _, (HB.far3 (by omega) _ _ _).put _ _ _, (HR.far3 (by omega) _ _ _).far3 (by omega) _ _ _, bset3 (bset3 HW (Nat.le_refl _)) (by omega)⟩)
  case rest =>
    clear HA HB HR HW hz
    obtain ⟨rfl, HA, HB, HR, HW⟩ := hcut
    have hz := HW.size
    obtain ⟨a0, a1, a2, fa0, fa1, fa2⟩ := id HA
    obtain ⟨c0, c1, c2, fc0, fc1, fc2⟩ := id HB
    obtain ⟨r0, r1, r2, fr0, fr1, fr2⟩ := id HR

    by_cases hn : 1 ≤ n ∧ n ≤ 4096
    · obtain ⟨n0, n1⟩ := hn
      by_cases hi0 : i < 0
      · have hi0' : decide (i < 0) = true := decide_eq_true hi0
        go_wp2_with (go_at_call 66; refine (den_yes _ _ n0 n1).mono ?_; rintro e w' ⟨rfl, rfl⟩)
        exact bodyPost_ret (v := vec (cc x) (cc y) (cc z)) (by simp [results, Try.results46, go_sem, r0, r1, r2]) rfl ⟨ret_vec (lerp_bad (by omega) _ _).symm (lerp_bad (by omega) _ _).symm (lerp_bad (by omega) _ _).symm, bset3 HW (by omega)⟩
      · have hi0' : decide (i < 0) = false := decide_eq_false hi0
        by_cases hi1 : n < i
        · have hi1' : decide (n < i) = true := decide_eq_true hi1
          go_wp2_with (go_at_call 66; refine (den_yes _ _ n0 n1).mono ?_; rintro e w' ⟨rfl, rfl⟩)
          exact bodyPost_ret (v := vec (cc x) (cc y) (cc z)) (by simp [results, Try.results46, go_sem, r0, r1, r2]) rfl ⟨ret_vec (lerp_bad (by omega) _ _).symm (lerp_bad (by omega) _ _).symm (lerp_bad (by omega) _ _).symm, bset3 HW (by omega)⟩
        · have hi1' : decide (n < i) = false := decide_eq_false hi1
          have t0 := cc_times (n - i) x (by omega) (by omega)
          have s0 := cc_times i p (by omega) (by omega)
          have t1 := cc_times (n - i) y (by omega) (by omega)
          have s1 := cc_times i q (by omega) (by omega)
          have t2 := cc_times (n - i) z (by omega) (by omega)
          have s2 := cc_times i r (by omega) (by omega)
          have l0 : -4611686018427387904 ≤ (n - i) * cc x := by omega
          have v0 : (n - i) * cc x ≤ 4611686018427387903 := by omega
          have l1 : -4611686018427387904 ≤ (n - i) * cc y := by omega
          have v1 : (n - i) * cc y ≤ 4611686018427387903 := by omega
          have l2 : -4611686018427387904 ≤ (n - i) * cc z := by omega
          have v2 : (n - i) * cc z ≤ 4611686018427387903 := by omega
          have l3 : -4611686018427387904 ≤ i * cc p := by omega
          have v3 : i * cc p ≤ 4611686018427387903 := by omega
          have l4 : -4611686018427387904 ≤ i * cc q := by omega
          have v4 : i * cc q ≤ 4611686018427387903 := by omega
          have l5 : -4611686018427387904 ≤ i * cc r := by omega
          have v5 : i * cc r ≤ 4611686018427387903 := by omega
          have l6 : -4611686018427387904 ≤ (n - i) * cc x + i * cc p := by omega
          have v6 : (n - i) * cc x + i * cc p ≤ 4611686018427387903 := by omega
          have l7 : -4611686018427387904 ≤ (n - i) * cc y + i * cc q := by omega
          have v7 : (n - i) * cc y + i * cc q ≤ 4611686018427387903 := by omega
          have l8 : -4611686018427387904 ≤ (n - i) * cc z + i * cc r := by omega
          have v8 : (n - i) * cc z + i * cc r ≤ 4611686018427387903 := by omega
          go_wp2_with (go_at_call 66; refine (den_yes _ _ n0 n1).mono ?_; rintro e w' ⟨rfl, rfl⟩)
          have HW := HW.drew
          have HR := HR.drew
          have hz : w.heap.size ≤ wc.drew.heap.size := hz
          have hz3 : w.heap.size + 3 ≤ wc.drew.heap.size := by have := HR.lt; omega
          clear r0 r1 r2 fr0 fr1 fr2 fa0 fa1 fa2 fc0 fc1 fc2 hi0' hi1'
          have S0 : w.heap.size + 3 ≤ wc.drew.heap.size ∧ wc.drew.cell? ⟨w.heap.size, 0, none⟩ = some (.int .i64 (cc x)) ∧ wc.drew.cell? ⟨w.heap.size, 1, none⟩ = some (.int .i64 (cc y)) ∧ wc.drew.cell? ⟨w.heap.size, 2, none⟩ = some (.int .i64 (cc z)) ∧ wc.drew.cell? ⟨w.heap.size + 1, 0, none⟩ = some (.int .i64 (cc p)) ∧ wc.drew.cell? ⟨w.heap.size + 1, 1, none⟩ = some (.int .i64 (cc q)) ∧ wc.drew.cell? ⟨w.heap.size + 1, 2, none⟩ = some (.int .i64 (cc r)) := ⟨hz3, a0, a1, a2, c0, c1, c2⟩
          clear a0 a1 a2 c0 c1 c2
          have ew : IntKind.i64.wrap (n - i) = n - i := IntWalk.i64_in _ (by omega)
          go_region_held3 (fun w' => w.heap.size + 3 ≤ w'.heap.size ∧ w'.cell? ⟨w.heap.size, 0, none⟩ = some (.int .i64 (cc x)) ∧ w'.cell? ⟨w.heap.size, 1, none⟩ = some (.int .i64 (cc y)) ∧ w'.cell? ⟨w.heap.size, 2, none⟩ = some (.int .i64 (cc z)) ∧ w'.cell? ⟨w.heap.size + 1, 0, none⟩ = some (.int .i64 (cc p)) ∧ w'.cell? ⟨w.heap.size + 1, 1, none⟩ = some (.int .i64 (cc q)) ∧ w'.cell? ⟨w.heap.size + 1, 2, none⟩ = some (.int .i64 (cc r)))
    (first | (with_reducible exact S0) | (go_split_ands; have hsz := hb1.size; with_reducible exact ⟨by clear ew; omega, ((bcell hb1).1 _ _ (by clear ew; omega)).trans (by assumption), ((bcell hb1).1 _ _ (by clear ew; omega)).trans (by assumption), ((bcell hb1).1 _ _ (by clear ew; omega)).trans (by assumption), ((bcell hb1).1 _ _ (by clear ew; omega)).trans (by assumption), ((bcell hb1).1 _ _ (by clear ew; omega)).trans (by assumption), ((bcell hb1).1 _ _ (by clear ew; omega)).trans (by assumption)⟩) | (go_split_ands; with_reducible exact ⟨size3 (by assumption), (far3 (by clear ew; omega)).trans (by assumption), (far3 (by clear ew; omega)).trans (by assumption), (far3 (by clear ew; omega)).trans (by assumption), (far3 (by clear ew; omega)).trans (by assumption), (far3 (by clear ew; omega)).trans (by assumption), (far3 (by clear ew; omega)).trans (by assumption)⟩) | (go_keep; done))
    (first | (go_at_call 67; refine (times_any _ _ _ _ _ (by assumption) (by assumption) (by assumption) (by assumption) (by assumption) (by assumption)).mono ?_; rintro e w1 ⟨rfl, hb1⟩; have HW : Below w.heap.size w w1 := bcall HW hb1 hz; have hz : w.heap.size ≤ w1.heap.size := HW.size; have HR := HR.later hb1; obtain ⟨hr0, hr1, hr2, gr0, gr1, gr2⟩ := id HR) | (go_at_call 68; refine (plus_any _ _ _ _ _ _ _ (by assumption) (by assumption) (by assumption) (by assumption) (by assumption) (by assumption)).mono ?_; rintro e w1 ⟨rfl, hb1⟩; have HW : Below w.heap.size w w1 := bcall HW hb1 hz; have hz : w.heap.size ≤ w1.heap.size := HW.size; have HR := HR.later hb1; obtain ⟨hr0, hr1, hr2, gr0, gr1, gr2⟩ := id HR) | (go_at_call 69; refine (over_any _ _ _ _ _ (by assumption) (by assumption) (by assumption) (by assumption) (by assumption) (by assumption)).mono ?_; rintro e w1 ⟨rfl, hb1⟩; have HW : Below w.heap.size w w1 := bcall HW hb1 hz; have hz : w.heap.size ≤ w1.heap.size := HW.size; have HR := HR.later hb1; obtain ⟨hr0, hr1, hr2, gr0, gr1, gr2⟩ := id HR) )
          clear ew
          clear S0
          go_wp2
          exact bodyPost_ret (v := vec (fdivP ((n - i) * cc x + i * cc p) n) (fdivP ((n - i) * cc y + i * cc q) n) (fdivP ((n - i) * cc z + i * cc r) n)) (by simp [results, Try.results46, go_sem, hr0, hr1, hr2]) rfl ⟨ret_vec (lerp_good (by omega) _ _).symm (lerp_good (by omega) _ _).symm (lerp_good (by omega) _ _).symm, bset3 HW (by omega)⟩
    · go_wp2_with (go_at_call 66; refine (den_no _ _ hn).mono ?_; rintro e w' ⟨rfl, rfl⟩)
      exact bodyPost_ret (v := vec (cc x) (cc y) (cc z)) (by simp [results, Try.results46, go_sem, r0, r1, r2]) rfl ⟨ret_vec (lerp_bad (by omega) _ _).symm (lerp_bad (by omega) _ _).symm (lerp_bad (by omega) _ _).symm, bset3 HW (by omega)⟩

theorem lerp_goodS {i n : Int} (h : (1 ≤ n ∧ n ≤ 4096) ∧ 0 ≤ i ∧ i ≤ n) (a b : Int) : lerpP a b i n = fdivP (a * (n - i) + b * i) n := by
  rw [lerp_good h, Int.mul_comm (n - i) a, Int.mul_comm i b]
set_option maxHeartbeats 2000000 in
theorem sLerp_bad (x y z p q r i n : Int) (w : World) (hn : ¬ ((1 ≤ n ∧ n ≤ 4096) ∧ 0 ≤ i ∧ i ≤ n)) :
    Calls Try.prog 60 #[vec x y z, vec p q r, .int .i64 i, .int .i64 n] w (VecOut (lerpP (cc x) (cc p) i n) (lerpP (cc y) (cc q) i n) (lerpP (cc z) (cc r) i n) w) := by
  have HB : Vbox (((w.alloc (.cells #[.int .i64 x, .int .i64 y, .int .i64 z] 37)).alloc (.cells #[.int .i64 p, .int .i64 q, .int .i64 r] 37)).alloc (.cells #[.int .i64 0, .int .i64 0, .int .i64 0] 37)) (w.heap.size + 1) p q r := (Vbox.new1 w _ p q r _).alloc _
  have HR : Vbox (((w.alloc (.cells #[.int .i64 x, .int .i64 y, .int .i64 z] 37)).alloc (.cells #[.int .i64 p, .int .i64 q, .int .i64 r] 37)).alloc (.cells #[.int .i64 0, .int .i64 0, .int .i64 0] 37)) (w.heap.size + 2) 0 0 0 := Vbox.new2 w _ _ 0 0 0 _
  have HW : Below w.heap.size w (((w.alloc (.cells #[.int .i64 x, .int .i64 y, .int .i64 z] 37)).alloc (.cells #[.int .i64 p, .int .i64 q, .int .i64 r] 37)).alloc (.cells #[.int .i64 0, .int .i64 0, .int .i64 0] 37)) := by go_grown
  have hz : w.heap.size ≤ (((w.alloc (.cells #[.int .i64 x, .int .i64 y, .int .i64 z] 37)).alloc (.cells #[.int .i64 p, .int .i64 q, .int .i64 r] 37)).alloc (.cells #[.int .i64 0, .int .i64 0, .int .i64 0] 37)).heap.size := by simp; omega
  go_enter Try.func60, Try.ntmps60
  go_wp2_with fail
  refine (l02V_any _ _ _ _).mono ?_
  rintro e w1 ⟨rfl, hb1⟩
  have HX := Vbox.new w1 (cc x) (cc y) (cc z) 37
  have HB := (HB.later hb1).alloc (.cells #[.int .i64 (cc x), .int .i64 (cc y), .int .i64 (cc z)] 37)
  have HR := (HR.later hb1).alloc (.cells #[.int .i64 (cc x), .int .i64 (cc y), .int .i64 (cc z)] 37)
  have HW := (bcall HW hb1 hz).alloc (bcall HW hb1 hz).size (.cells #[.int .i64 (cc x), .int .i64 (cc y), .int .i64 (cc z)] 37)
  have hz := HW.size
  have ng : w.heap.size + 2 < w1.heap.size := by have := hb1.size; simp at this; omega
  obtain ⟨c0, c1, c2, _, _, _⟩ := id HB
  clear hb1
  go_wp2_with fail
  refine (l02V_any _ _ _ _).mono ?_
  rintro e w2 ⟨rfl, hb2⟩
  have HX := (HX.later hb2).alloc (.cells #[.int .i64 (cc p), .int .i64 (cc q), .int .i64 (cc r)] 37)
  have HY := Vbox.new w2 (cc p) (cc q) (cc r) 37
  have HR := (HR.later hb2).alloc (.cells #[.int .i64 (cc p), .int .i64 (cc q), .int .i64 (cc r)] 37)
  have HW := (bcall HW hb2 hz).alloc (bcall HW hb2 hz).size (.cells #[.int .i64 (cc p), .int .i64 (cc q), .int .i64 (cc r)] 37)
  have hz := HW.size
  have nh : w1.heap.size < w2.heap.size := by have := hb2.size; simp at this; omega
  clear c0 c1 c2 hb2 HB
  obtain ⟨c0, c1, c2, fc0, fc1, fc2⟩ := id HX
  obtain ⟨d0, d1, d2, fd0, fd1, fd2⟩ := id HY
  obtain ⟨r0, r1, r2, fr0, fr1, fr2⟩ := id HR

  by_cases h : 1 ≤ n ∧ n ≤ 4096
  · go_wp2_with fail
    refine (inV_yes _ _ _ _ h.1 h.2).mono ?_
    rintro e w' ⟨rfl, rfl⟩
    go_wp2_with fail
    refine (inV_no _ _ _ _ (by omega)).mono ?_
    rintro e w' ⟨rfl, rfl⟩
    go_wp2_with fail
    exact bodyPost_ret (v := vec (cc x) (cc y) (cc z)) (by simp [results, Try.results60, go_sem, r0, r1, r2]) rfl ⟨ret_vec (lerp_bad (by omega) _ _).symm (lerp_bad (by omega) _ _).symm (lerp_bad (by omega) _ _).symm, bset3 HW (by omega)⟩
  · go_wp2_with fail
    refine (inV_no _ _ _ _ h).mono ?_
    rintro e w' ⟨rfl, rfl⟩
    go_wp2_with fail
    exact bodyPost_ret (v := vec (cc x) (cc y) (cc z)) (by simp [results, Try.results60, go_sem, r0, r1, r2]) rfl ⟨ret_vec (lerp_bad (by omega) _ _).symm (lerp_bad (by omega) _ _).symm (lerp_bad (by omega) _ _).symm, bset3 HW (by omega)⟩
set_option maxHeartbeats 4000000 in
theorem sLerp_good (x y z p q r i n : Int) (w : World) (n0 : 1 ≤ n) (n1 : n ≤ 4096) (i0 : 0 ≤ i) (i1 : i ≤ n) :
    Calls Try.prog 60 #[vec x y z, vec p q r, .int .i64 i, .int .i64 n] w (VecOut (lerpP (cc x) (cc p) i n) (lerpP (cc y) (cc q) i n) (lerpP (cc z) (cc r) i n) w) := by
  have HB : Vbox (((w.alloc (.cells #[.int .i64 x, .int .i64 y, .int .i64 z] 37)).alloc (.cells #[.int .i64 p, .int .i64 q, .int .i64 r] 37)).alloc (.cells #[.int .i64 0, .int .i64 0, .int .i64 0] 37)) (w.heap.size + 1) p q r := (Vbox.new1 w _ p q r _).alloc _
  have HR : Vbox (((w.alloc (.cells #[.int .i64 x, .int .i64 y, .int .i64 z] 37)).alloc (.cells #[.int .i64 p, .int .i64 q, .int .i64 r] 37)).alloc (.cells #[.int .i64 0, .int .i64 0, .int .i64 0] 37)) (w.heap.size + 2) 0 0 0 := Vbox.new2 w _ _ 0 0 0 _
  have HW : Below w.heap.size w (((w.alloc (.cells #[.int .i64 x, .int .i64 y, .int .i64 z] 37)).alloc (.cells #[.int .i64 p, .int .i64 q, .int .i64 r] 37)).alloc (.cells #[.int .i64 0, .int .i64 0, .int .i64 0] 37)) := by go_grown
  have hz : w.heap.size ≤ (((w.alloc (.cells #[.int .i64 x, .int .i64 y, .int .i64 z] 37)).alloc (.cells #[.int .i64 p, .int .i64 q, .int .i64 r] 37)).alloc (.cells #[.int .i64 0, .int .i64 0, .int .i64 0] 37)).heap.size := by simp; omega
  go_enter Try.func60, Try.ntmps60
  go_wp2_with fail
  refine (l02V_any _ _ _ _).mono ?_
  rintro e w1 ⟨rfl, hb1⟩
  have HX := Vbox.new w1 (cc x) (cc y) (cc z) 37
  have HB := (HB.later hb1).alloc (.cells #[.int .i64 (cc x), .int .i64 (cc y), .int .i64 (cc z)] 37)
  have HR := (HR.later hb1).alloc (.cells #[.int .i64 (cc x), .int .i64 (cc y), .int .i64 (cc z)] 37)
  have HW := (bcall HW hb1 hz).alloc (bcall HW hb1 hz).size (.cells #[.int .i64 (cc x), .int .i64 (cc y), .int .i64 (cc z)] 37)
  have hz := HW.size
  have ng : w.heap.size + 2 < w1.heap.size := by have := hb1.size; simp at this; omega
  obtain ⟨c0, c1, c2, _, _, _⟩ := id HB
  clear hb1
  go_wp2_with fail
  refine (l02V_any _ _ _ _).mono ?_
  rintro e w2 ⟨rfl, hb2⟩
  have HX := (HX.later hb2).alloc (.cells #[.int .i64 (cc p), .int .i64 (cc q), .int .i64 (cc r)] 37)
  have HY := Vbox.new w2 (cc p) (cc q) (cc r) 37
  have HR := (HR.later hb2).alloc (.cells #[.int .i64 (cc p), .int .i64 (cc q), .int .i64 (cc r)] 37)
  have HW := (bcall HW hb2 hz).alloc (bcall HW hb2 hz).size (.cells #[.int .i64 (cc p), .int .i64 (cc q), .int .i64 (cc r)] 37)
  have hz := HW.size
  have nh : w1.heap.size < w2.heap.size := by have := hb2.size; simp at this; omega
  clear c0 c1 c2 hb2 HB
  obtain ⟨c0, c1, c2, fc0, fc1, fc2⟩ := id HX
  obtain ⟨d0, d1, d2, fd0, fd1, fd2⟩ := id HY
  obtain ⟨r0, r1, r2, fr0, fr1, fr2⟩ := id HR

  go_wp2_with fail
  refine (inV_yes _ _ _ _ n0 n1).mono ?_
  rintro e w' ⟨rfl, rfl⟩
  go_wp2_with fail
  refine (inV_yes _ _ _ _ i0 i1).mono ?_
  rintro e w' ⟨rfl, rfl⟩
  go_wp2_with fail
  have S0 : (w2.alloc (.cells #[.int .i64 (cc p), .int .i64 (cc q), .int .i64 (cc r)] 37)).drew.cell? ⟨w1.heap.size, 0, none⟩ = some (.int .i64 (cc x)) ∧ (w2.alloc (.cells #[.int .i64 (cc p), .int .i64 (cc q), .int .i64 (cc r)] 37)).drew.cell? ⟨w1.heap.size, 1, none⟩ = some (.int .i64 (cc y)) ∧ (w2.alloc (.cells #[.int .i64 (cc p), .int .i64 (cc q), .int .i64 (cc r)] 37)).drew.cell? ⟨w1.heap.size, 2, none⟩ = some (.int .i64 (cc z)) ∧ (w2.alloc (.cells #[.int .i64 (cc p), .int .i64 (cc q), .int .i64 (cc r)] 37)).drew.cell? ⟨w2.heap.size, 0, none⟩ = some (.int .i64 (cc p)) ∧ (w2.alloc (.cells #[.int .i64 (cc p), .int .i64 (cc q), .int .i64 (cc r)] 37)).drew.cell? ⟨w2.heap.size, 1, none⟩ = some (.int .i64 (cc q)) ∧ (w2.alloc (.cells #[.int .i64 (cc p), .int .i64 (cc q), .int .i64 (cc r)] 37)).drew.cell? ⟨w2.heap.size, 2, none⟩ = some (.int .i64 (cc r)) := ⟨c0, c1, c2, d0, d1, d2⟩
  clear c0 c1 c2 d0 d1 d2
  have np1 : w1.heap.size ≠ w.heap.size + 1 + 1 := by omega
  have np2 : w2.heap.size ≠ w.heap.size + 1 + 1 := by omega
  have np3 : w1.heap.size < (w2.alloc (.cells #[.int .i64 (cc p), .int .i64 (cc q), .int .i64 (cc r)] 37)).drew.heap.size := HX.lt
  have np4 : w2.heap.size < (w2.alloc (.cells #[.int .i64 (cc p), .int .i64 (cc q), .int .i64 (cc r)] 37)).drew.heap.size := HY.lt
  clear fc0 fc1 fc2 fd0 fd1 fd2
  have t0 := cc_times (n - i) x (by omega) (by omega)
  have s0 := cc_times i p (by omega) (by omega)
  rw [Int.mul_comm] at t0
  rw [Int.mul_comm] at s0
  have t1 := cc_times (n - i) y (by omega) (by omega)
  have s1 := cc_times i q (by omega) (by omega)
  rw [Int.mul_comm] at t1
  rw [Int.mul_comm] at s1
  have t2 := cc_times (n - i) z (by omega) (by omega)
  have s2 := cc_times i r (by omega) (by omega)
  rw [Int.mul_comm] at t2
  rw [Int.mul_comm] at s2
  have l0 : -9223372036854775808 ≤ cc x * (n - i) + cc p * i := by omega
  have v0 : cc x * (n - i) + cc p * i ≤ 9223372036854775807 := by omega
  have l1 : -9223372036854775808 ≤ cc y * (n - i) + cc q * i := by omega
  have v1 : cc y * (n - i) + cc q * i ≤ 9223372036854775807 := by omega
  have l2 : -9223372036854775808 ≤ cc z * (n - i) + cc r * i := by omega
  have v2 : cc z * (n - i) + cc r * i ≤ 9223372036854775807 := by omega
  have q0 : IntKind.i64.wrap (n - i) = n - i := wrap_in (by omega)
  have qa0 : IntKind.i64.wrap (cc x * (n - i)) = cc x * (n - i) := wrap_in (by clear q0; omega)
  have qb0 : IntKind.i64.wrap (cc p * i) = cc p * i := wrap_in (by clear q0 qa0; omega)
  have qc0 : IntKind.i64.wrap (cc x * (n - i) + cc p * i) = cc x * (n - i) + cc p * i := wrap_in (by clear q0 qa0 qb0; omega)
  have qa1 : IntKind.i64.wrap (cc y * (n - i)) = cc y * (n - i) := wrap_in (by clear q0 qa0 qb0 qc0; omega)
  have qb1 : IntKind.i64.wrap (cc q * i) = cc q * i := wrap_in (by clear q0 qa0 qb0 qc0 qa1; omega)
  have qc1 : IntKind.i64.wrap (cc y * (n - i) + cc q * i) = cc y * (n - i) + cc q * i := wrap_in (by clear q0 qa0 qb0 qc0 qa1 qb1; omega)
  have qa2 : IntKind.i64.wrap (cc z * (n - i)) = cc z * (n - i) := wrap_in (by clear q0 qa0 qb0 qc0 qa1 qb1 qc1; omega)
  have qb2 : IntKind.i64.wrap (cc r * i) = cc r * i := wrap_in (by clear q0 qa0 qb0 qc0 qa1 qb1 qc1 qa2; omega)
  have qc2 : IntKind.i64.wrap (cc z * (n - i) + cc r * i) = cc z * (n - i) + cc r * i := wrap_in (by clear q0 qa0 qb0 qc0 qa1 qb1 qc1 qa2 qb2; omega)
  go_region_held3 (fun w' => w'.cell? ⟨w1.heap.size, 0, none⟩ = some (.int .i64 (cc x)) ∧ w'.cell? ⟨w1.heap.size, 1, none⟩ = some (.int .i64 (cc y)) ∧ w'.cell? ⟨w1.heap.size, 2, none⟩ = some (.int .i64 (cc z)) ∧ w'.cell? ⟨w2.heap.size, 0, none⟩ = some (.int .i64 (cc p)) ∧ w'.cell? ⟨w2.heap.size, 1, none⟩ = some (.int .i64 (cc q)) ∧ w'.cell? ⟨w2.heap.size, 2, none⟩ = some (.int .i64 (cc r)))
    (first | (with_reducible exact S0) | (with_reducible assumption) | (go_split_ands; with_reducible exact ⟨((bcell hb1).1 _ _ (by assumption)).trans (by assumption), ((bcell hb1).1 _ _ (by assumption)).trans (by assumption), ((bcell hb1).1 _ _ (by assumption)).trans (by assumption), ((bcell hb1).1 _ _ (by assumption)).trans (by assumption), ((bcell hb1).1 _ _ (by assumption)).trans (by assumption), ((bcell hb1).1 _ _ (by assumption)).trans (by assumption)⟩) | (go_split_ands; with_reducible exact ⟨(far3 (by assumption)).trans (by assumption), (far3 (by assumption)).trans (by assumption), (far3 (by assumption)).trans (by assumption), (far3 (by assumption)).trans (by assumption), (far3 (by assumption)).trans (by assumption), (far3 (by assumption)).trans (by assumption)⟩) | (go_split_ands; exact ⟨(far3d (by assumption)).trans (by assumption), (far3d (by assumption)).trans (by assumption), (far3d (by assumption)).trans (by assumption), (far3d (by assumption)).trans (by assumption), (far3d (by assumption)).trans (by assumption), (far3d (by assumption)).trans (by assumption)⟩) | (go_keep; done))
    (first | (go_at_call 72; refine (sFloorDiv_any _ _ _ (by assumption) (by assumption)).mono ?_; rintro e w' ⟨rfl, rfl⟩) )
  clear q0 qa0 qb0 qc0 qa1 qb1 qc1 qa2 qb2 qc2
  go_wp2
  exact bodyPost_ret (v := vec (fdivP (cc x * (n - i) + cc p * i) n) (fdivP (cc y * (n - i) + cc q * i) n) (fdivP (cc z * (n - i) + cc r * i) n)) (by simp [results, Try.results60, go_sem, r0, r1, r2]) rfl ⟨ret_vec (lerp_goodS ⟨⟨n0, n1⟩, i0, i1⟩ _ _).symm (lerp_goodS ⟨⟨n0, n1⟩, i0, i1⟩ _ _).symm (lerp_goodS ⟨⟨n0, n1⟩, i0, i1⟩ _ _).symm, bset3 HW.drew (by omega)⟩
theorem sLerp_any (x y z p q r i n : Int) (w : World) :
    Calls Try.prog 60 #[vec x y z, vec p q r, .int .i64 i, .int .i64 n] w (VecOut (lerpP (cc x) (cc p) i n) (lerpP (cc y) (cc q) i n) (lerpP (cc z) (cc r) i n) w) := by
  by_cases h : (1 ≤ n ∧ n ≤ 4096) ∧ 0 ≤ i ∧ i ≤ n
  · exact sLerp_good x y z p q r i n w h.1.1 h.1.2 h.2.1 h.2.2
  · exact sLerp_bad x y z p q r i n w h

end Go.Proofs.Ytbgpcgimmiinbaa
