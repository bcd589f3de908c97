/- Contracts of Scale: the program and its model. -/
import Derived.Test.YtjdafiijldfdaaaProg
import Derived.Test.YtjdafiijldfdaaaInts
import Derived.Test.YtjdafiijldfdaaaVbox
import Derived.Test.YtjdafiijldfdaaaVec
import Derived.WalkKit
import Derived.WalkSpells
import Derived.WalkLawsBesides
import Derived.Lib.Hide
import Derived.Deep.RegionHeld3
import Derived.Deep.QuietTactic
import Derived.BigQuiet
import Derived.Handy
import Derived.Deep.DeepCutAuto
import Derived.Laws.StructEq
namespace Go.Proofs.Ytjdafiijldfdaaa
open Go.RowKit

set_option maxHeartbeats 4000000 in
theorem scale_any (x y z i n : Int) (w : World) :
    Calls Try.prog 25 #[vec x y z, .int .i64 i, .int .i64 n] w (VecOut (scaleP (cc x) i n) (scaleP (cc y) i n) (scaleP (cc z) i n) w) := by
  have HA : Vbox ((w.alloc (.cells #[.int .i64 x, .int .i64 y, .int .i64 z] 25)).alloc (.cells #[.int .i64 0, .int .i64 0, .int .i64 0] 25)) w.heap.size x y z := (Vbox.new w x y z _).alloc _
  have HR : Vbox ((w.alloc (.cells #[.int .i64 x, .int .i64 y, .int .i64 z] 25)).alloc (.cells #[.int .i64 0, .int .i64 0, .int .i64 0] 25)) (w.heap.size + 1) 0 0 0 := Vbox.new1 w _ 0 0 0 _
  have HW : Below w.heap.size w ((w.alloc (.cells #[.int .i64 x, .int .i64 y, .int .i64 z] 25)).alloc (.cells #[.int .i64 0, .int .i64 0, .int .i64 0] 25)) := by go_grown
  have hz : w.heap.size ≤ ((w.alloc (.cells #[.int .i64 x, .int .i64 y, .int .i64 z] 25)).alloc (.cells #[.int .i64 0, .int .i64 0, .int .i64 0] 25)).heap.size := by simp; omega
  go_enter Try.func25, Try.ntmps25
  go_upto_region 1 with fail
  go_cut [3] (fun s wx => s = .pointer (some ⟨w.heap.size, 0, none⟩) ∧ Vbox wx w.heap.size (cc x) (cc y) (cc z) ∧ Vbox wx (w.heap.size + 1) 0 0 0 ∧ Below w.heap.size w wx)
  case first =>
    go_wp2_with fail
    refine (clamped_any _ _ _ _).mono ?_
    rintro e w1 ⟨rfl, hb1⟩
    have HW := bcall HW hb1 hz
    have HA := HA.later hb1
    have HR := HR.later hb1
    obtain ⟨a0, a1, a2, fa0, fa1, fa2⟩ := id HA
    clear hb1
    go_wp2_with fail
    go_meet
    exact ⟨rfl, HA.put _ _ _, HR.far3 (by omega) _ _ _, bset3 HW (Nat.le_refl _)⟩
  case rest =>
    clear HA HR HW hz
    obtain ⟨rfl, HA, HR, HW⟩ := hcut
    have hz := HW.size
    obtain ⟨a0, a1, a2, fa0, fa1, fa2⟩ := id HA
    obtain ⟨r0, r1, r2, fr0, fr1, fr2⟩ := id HR
    by_cases hn : 1 ≤ n ∧ n ≤ 4096
    · obtain ⟨n0, n1⟩ := hn
      by_cases hi0 : i < -4096
      · have hi0' : decide (i < -4096) = true := decide_eq_true hi0
        go_wp2_with (go_at_call 38; refine (den_yes _ _ n0 n1).mono ?_; rintro e w' ⟨rfl, rfl⟩)
        exact bodyPost_ret (v := vec (cc x) (cc y) (cc z)) (by simp [results, Try.results25, go_sem, r0, r1, r2]) rfl ⟨ret_vec (scale_bad (by omega) _).symm (scale_bad (by omega) _).symm (scale_bad (by omega) _).symm, bset3 HW (by omega)⟩
      · have hi0' : decide (i < -4096) = false := decide_eq_false hi0
        by_cases hi1 : 4096 < i
        · have hi1' : decide (4096 < i) = true := decide_eq_true hi1
          go_wp2_with (go_at_call 38; refine (den_yes _ _ n0 n1).mono ?_; rintro e w' ⟨rfl, rfl⟩)
          exact bodyPost_ret (v := vec (cc x) (cc y) (cc z)) (by simp [results, Try.results25, go_sem, r0, r1, r2]) rfl ⟨ret_vec (scale_bad (by omega) _).symm (scale_bad (by omega) _).symm (scale_bad (by omega) _).symm, bset3 HW (by omega)⟩
        · have hi1' : decide (4096 < i) = false := decide_eq_false hi1
          have t0 := cc_times i x (by omega) (by omega)
          have t1 := cc_times i y (by omega) (by omega)
          have t2 := cc_times i z (by omega) (by omega)
          go_wp2_with fail
          refine (den_yes _ _ n0 n1).mono ?_
          rintro e w' ⟨rfl, rfl⟩
          go_wp2_with fail
          refine (times_any _ _ _ _ _ (by omega) (by omega) (by omega) (by omega) (by omega) (by omega)).mono ?_
          rintro e w1 ⟨rfl, hb1⟩
          have HW := bcall HW hb1 hz
          have hz := HW.size
          have HR := HR.later hb1
          clear a0 a1 a2 fa0 fa1 fa2 r0 r1 r2 fr0 fr1 fr2 hb1
          go_wp2_with fail
          refine (over_any _ _ _ _ _ (by omega) (by omega) (by omega) (by omega) (by omega) (by omega)).mono ?_
          rintro e w2 ⟨rfl, hb2⟩
          have HW := bcall HW hb2 hz
          have hz := HW.size
          have HR := HR.later hb2
          clear hb2
          go_wp2_with fail
          refine (clamped_any _ _ _ _).mono ?_
          rintro e w3 ⟨rfl, hb3⟩
          have HW := bcall HW hb3 hz
          have HR := HR.later hb3
          obtain ⟨r0, r1, r2, fr0, fr1, fr2⟩ := id HR
          clear hb3
          go_wp2_with fail
          exact bodyPost_ret (v := vec (cc (fdivP (i * cc x) n)) (cc (fdivP (i * cc y) n)) (cc (fdivP (i * cc z) n))) (by simp [results, Try.results25, go_sem, r0, r1, r2]) rfl ⟨ret_vec (scale_good (by omega) _).symm (scale_good (by omega) _).symm (scale_good (by omega) _).symm, bset3 HW (by omega)⟩
    · go_wp2_with (go_at_call 38; refine (den_no _ _ hn).mono ?_; rintro e w' ⟨rfl, rfl⟩)
      exact bodyPost_ret (v := vec (cc x) (cc y) (cc z)) (by simp [results, Try.results25, go_sem, r0, r1, r2]) rfl ⟨ret_vec (scale_bad (by omega) _).symm (scale_bad (by omega) _).symm (scale_bad (by omega) _).symm, bset3 HW (by omega)⟩

theorem scale_goodS {i n : Int} (h : (1 ≤ n ∧ n ≤ 4096) ∧ -4096 ≤ i ∧ i ≤ 4096) (a : Int) : scaleP a i n = cc (fdivP (a * i) n) := by
  rw [scale_good h, Int.mul_comm i a]
set_option maxHeartbeats 2000000 in
theorem sScale_bad (x y z i n : Int) (w : World) (hn : ¬ ((1 ≤ n ∧ n ≤ 4096) ∧ -4096 ≤ i ∧ i ≤ 4096)) :
    Calls Try.prog 24 #[vec x y z, .int .i64 i, .int .i64 n] w (VecOut (scaleP (cc x) i n) (scaleP (cc y) i n) (scaleP (cc z) i n) w) := by
  have HR : Vbox ((w.alloc (.cells #[.int .i64 x, .int .i64 y, .int .i64 z] 25)).alloc (.cells #[.int .i64 0, .int .i64 0, .int .i64 0] 25)) (w.heap.size + 1) 0 0 0 := Vbox.new1 w _ 0 0 0 _
  have HW : Below w.heap.size w ((w.alloc (.cells #[.int .i64 x, .int .i64 y, .int .i64 z] 25)).alloc (.cells #[.int .i64 0, .int .i64 0, .int .i64 0] 25)) := by go_grown
  have hz : w.heap.size ≤ ((w.alloc (.cells #[.int .i64 x, .int .i64 y, .int .i64 z] 25)).alloc (.cells #[.int .i64 0, .int .i64 0, .int .i64 0] 25)).heap.size := by simp; omega
  go_enter Try.func24, Try.ntmps24
  go_wp2_with fail
  refine (l02V_any _ _ _ _).mono ?_
  rintro e w1 ⟨rfl, hb1⟩
  have HX := Vbox.new w1 (cc x) (cc y) (cc z) 25
  have HRw := HR.later hb1
  have HR := HRw.alloc (.cells #[.int .i64 (cc x), .int .i64 (cc y), .int .i64 (cc z)] 25)
  have HW := (bcall HW hb1 hz).alloc (bcall HW hb1 hz).size (.cells #[.int .i64 (cc x), .int .i64 (cc y), .int .i64 (cc z)] 25)
  have hz := HW.size
  have ng : w.heap.size + 1 < w1.heap.size := by have := hb1.size; simp at this; omega
  clear hb1
  obtain ⟨c0, c1, c2, fc0, fc1, fc2⟩ := id HX
  obtain ⟨r0, r1, r2, fr0, fr1, fr2⟩ := id HR
  clear ng HRw

  by_cases h : 1 ≤ n ∧ n ≤ 4096
  · go_wp2_with fail
    refine (in_yes _ _ _ _ h.1 h.2).mono ?_
    rintro e w' ⟨rfl, rfl⟩
    go_wp2_with fail
    refine (in_no _ _ _ _ (by omega)).mono ?_
    rintro e w' ⟨rfl, rfl⟩
    go_wp2_with fail
    exact bodyPost_ret (v := vec (cc x) (cc y) (cc z)) (by simp [results, Try.results24, go_sem, r0, r1, r2]) rfl ⟨ret_vec (scale_bad (by omega) _).symm (scale_bad (by omega) _).symm (scale_bad (by omega) _).symm, bset3 HW (by omega)⟩
  · go_wp2_with fail
    refine (in_no _ _ _ _ h).mono ?_
    rintro e w' ⟨rfl, rfl⟩
    go_wp2_with fail
    exact bodyPost_ret (v := vec (cc x) (cc y) (cc z)) (by simp [results, Try.results24, go_sem, r0, r1, r2]) rfl ⟨ret_vec (scale_bad (by omega) _).symm (scale_bad (by omega) _).symm (scale_bad (by omega) _).symm, bset3 HW (by omega)⟩
set_option maxHeartbeats 4000000 in
theorem sScale_good (x y z i n : Int) (w : World) (n0 : 1 ≤ n) (n1 : n ≤ 4096) (i0 : -4096 ≤ i) (i1 : i ≤ 4096) :
    Calls Try.prog 24 #[vec x y z, .int .i64 i, .int .i64 n] w (VecOut (scaleP (cc x) i n) (scaleP (cc y) i n) (scaleP (cc z) i n) w) := by
  have HR : Vbox ((w.alloc (.cells #[.int .i64 x, .int .i64 y, .int .i64 z] 25)).alloc (.cells #[.int .i64 0, .int .i64 0, .int .i64 0] 25)) (w.heap.size + 1) 0 0 0 := Vbox.new1 w _ 0 0 0 _
  have HW : Below w.heap.size w ((w.alloc (.cells #[.int .i64 x, .int .i64 y, .int .i64 z] 25)).alloc (.cells #[.int .i64 0, .int .i64 0, .int .i64 0] 25)) := by go_grown
  have hz : w.heap.size ≤ ((w.alloc (.cells #[.int .i64 x, .int .i64 y, .int .i64 z] 25)).alloc (.cells #[.int .i64 0, .int .i64 0, .int .i64 0] 25)).heap.size := by simp; omega
  go_enter Try.func24, Try.ntmps24
  go_wp2_with fail
  refine (l02V_any _ _ _ _).mono ?_
  rintro e w1 ⟨rfl, hb1⟩
  have HX := Vbox.new w1 (cc x) (cc y) (cc z) 25
  have HRw := HR.later hb1
  have HR := HRw.alloc (.cells #[.int .i64 (cc x), .int .i64 (cc y), .int .i64 (cc z)] 25)
  have HW := (bcall HW hb1 hz).alloc (bcall HW hb1 hz).size (.cells #[.int .i64 (cc x), .int .i64 (cc y), .int .i64 (cc z)] 25)
  have hz := HW.size
  have ng : w.heap.size + 1 < w1.heap.size := by have := hb1.size; simp at this; omega
  clear hb1
  obtain ⟨c0, c1, c2, fc0, fc1, fc2⟩ := id HX
  obtain ⟨r0, r1, r2, fr0, fr1, fr2⟩ := id HRw

  go_wp2_with fail
  refine (in_yes _ _ _ _ n0 n1).mono ?_
  rintro e w' ⟨rfl, rfl⟩
  go_wp2_with fail
  refine (in_yes _ _ _ _ i0 i1).mono ?_
  rintro e w' ⟨rfl, rfl⟩
  go_wp2_with fail
  clear r0 r1 r2 fr0 fr1 fr2
  have S0 : (w1.alloc (.cells #[.int .i64 (cc x), .int .i64 (cc y), .int .i64 (cc z)] 25)).drew.cell? ⟨w1.heap.size, 0, none⟩ = some (.int .i64 (cc x)) ∧ (w1.alloc (.cells #[.int .i64 (cc x), .int .i64 (cc y), .int .i64 (cc z)] 25)).drew.cell? ⟨w1.heap.size, 1, none⟩ = some (.int .i64 (cc y)) ∧ (w1.alloc (.cells #[.int .i64 (cc x), .int .i64 (cc y), .int .i64 (cc z)] 25)).drew.cell? ⟨w1.heap.size, 2, none⟩ = some (.int .i64 (cc z)) := ⟨c0, c1, c2⟩
  clear c0 c1 c2
  have np1 : w1.heap.size ≠ w.heap.size + 1 := by omega
  have np3 : w1.heap.size < (w1.alloc (.cells #[.int .i64 (cc x), .int .i64 (cc y), .int .i64 (cc z)] 25)).drew.heap.size := HX.lt
  clear fc0 fc1 fc2
  have t0 := cc_times i x (by omega) (by omega)
  rw [Int.mul_comm] at t0
  have t1 := cc_times i y (by omega) (by omega)
  rw [Int.mul_comm] at t1
  have t2 := cc_times i z (by omega) (by omega)
  rw [Int.mul_comm] at t2
  have l0 : -9223372036854775808 ≤ cc x * i := by omega
  have v0 : cc x * i ≤ 9223372036854775807 := by omega
  have l1 : -9223372036854775808 ≤ cc y * i := by omega
  have v1 : cc y * i ≤ 9223372036854775807 := by omega
  have l2 : -9223372036854775808 ≤ cc z * i := by omega
  have v2 : cc z * i ≤ 9223372036854775807 := by omega
  have q0 : IntKind.i64.wrap (cc x * i) = cc x * i := wrap_in (by omega)
  have q1 : IntKind.i64.wrap (cc y * i) = cc y * i := wrap_in (by clear q0; omega)
  have q2 : IntKind.i64.wrap (cc z * i) = cc z * i := wrap_in (by clear q0 q1; omega)
  go_region_held3 (fun w' => w'.cell? ⟨w1.heap.size, 0, none⟩ = some (.int .i64 (cc x)) ∧ w'.cell? ⟨w1.heap.size, 1, none⟩ = some (.int .i64 (cc y)) ∧ w'.cell? ⟨w1.heap.size, 2, none⟩ = some (.int .i64 (cc z)))
    (first | (with_reducible exact S0) | (with_reducible assumption) | (go_split_ands; with_reducible exact ⟨((bcell hb1).1 _ _ (by assumption)).trans (by assumption), ((bcell hb1).1 _ _ (by assumption)).trans (by assumption), ((bcell hb1).1 _ _ (by assumption)).trans (by assumption)⟩) | (go_split_ands; with_reducible exact ⟨(far3 (by assumption)).trans (by assumption), (far3 (by assumption)).trans (by assumption), (far3 (by assumption)).trans (by assumption)⟩) | (go_split_ands; exact ⟨(far3d (by assumption)).trans (by assumption), (far3d (by assumption)).trans (by assumption), (far3d (by assumption)).trans (by assumption)⟩) | (go_keep; done))
    (first | (go_at_call 37; refine (sFloorDiv_any _ _ _ (by assumption) (by assumption)).mono ?_; rintro e w' ⟨rfl, rfl⟩) | (go_at_call 32; refine (l02V_any _ _ _ _).mono ?_; rintro e w1 ⟨rfl, hb1⟩; have HR := HR.drew.later hb1; have HW := bcall HW.drew hb1 hz; obtain ⟨hr0, hr1, hr2, gr0, gr1, gr2⟩ := id HR) )
  clear q0 q1 q2
  go_wp2
  exact bodyPost_ret (v := vec (cc (fdivP (cc x * i) n)) (cc (fdivP (cc y * i) n)) (cc (fdivP (cc z * i) n))) (by simp [results, Try.results24, go_sem, hr0, hr1, hr2]) rfl ⟨ret_vec (scale_goodS ⟨⟨n0, n1⟩, i0, i1⟩ _).symm (scale_goodS ⟨⟨n0, n1⟩, i0, i1⟩ _).symm (scale_goodS ⟨⟨n0, n1⟩, i0, i1⟩ _).symm, bset3 HW (by omega)⟩
theorem sScale_any (x y z i n : Int) (w : World) :
    Calls Try.prog 24 #[vec x y z, .int .i64 i, .int .i64 n] w (VecOut (scaleP (cc x) i n) (scaleP (cc y) i n) (scaleP (cc z) i n) w) := by
  by_cases h : (1 ≤ n ∧ n ≤ 4096) ∧ -4096 ≤ i ∧ i ≤ 4096
  · exact sScale_good x y z i n w h.1.1 h.1.2 h.2.1 h.2.2
  · exact sScale_bad x y z i n w h

end Go.Proofs.Ytjdafiijldfdaaa
