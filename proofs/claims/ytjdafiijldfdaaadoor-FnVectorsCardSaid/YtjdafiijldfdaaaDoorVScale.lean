/- Contracts of Scale: the program and its model. -/
import Derived.Test.YtjdafiijldfdaaaDoorProg
import Derived.Test.YtjdafiijldfdaaaDoorInts
import Derived.Test.YtjdafiijldfdaaaDoorVbox
import Derived.Test.YtjdafiijldfdaaaDoorVec
import Derived.WalkKit
import Derived.WalkSpells
import Derived.WalkLawsBesides
import Derived.Lib.Hide
import Derived.Deep.RegionHeld3
import Derived.Deep.QuietTactic
import Derived.BigQuiet
import Derived.Handy
import Derived.Deep.DeepCutAuto
import Derived.Laws.StructEq
namespace Go.Proofs.YtjdafiijldfdaaaDoor
open Go.RowKit

set_option maxHeartbeats 4000000 in
theorem scale_any (x y z i n : Int) (w : World) :
    Calls Tryd.prog 19 #[vec x y z, .int .i64 i, .int .i64 n] w (VecOut (scaleP (cc x) i n) (scaleP (cc y) i n) (scaleP (cc z) i n) w) := by
  have HA : Vbox ((w.alloc (.cells #[.int .i64 x, .int .i64 y, .int .i64 z] 25)).alloc (.cells #[.int .i64 0, .int .i64 0, .int .i64 0] 25)) w.heap.size x y z := (Vbox.new w x y z _).alloc _
  have HR : Vbox ((w.alloc (.cells #[.int .i64 x, .int .i64 y, .int .i64 z] 25)).alloc (.cells #[.int .i64 0, .int .i64 0, .int .i64 0] 25)) (w.heap.size + 1) 0 0 0 := Vbox.new1 w _ 0 0 0 _
  have HW : Below w.heap.size w ((w.alloc (.cells #[.int .i64 x, .int .i64 y, .int .i64 z] 25)).alloc (.cells #[.int .i64 0, .int .i64 0, .int .i64 0] 25)) := by go_grown
  have hz : w.heap.size ≤ ((w.alloc (.cells #[.int .i64 x, .int .i64 y, .int .i64 z] 25)).alloc (.cells #[.int .i64 0, .int .i64 0, .int .i64 0] 25)).heap.size := by simp; omega
  go_enter Tryd.func19, Tryd.ntmps19
  go_upto_region 1 with fail
  go_cut [3] (fun s wx => s = .pointer (some ⟨w.heap.size, 0, none⟩) ∧ Vbox wx w.heap.size (cc x) (cc y) (cc z) ∧ Vbox wx (w.heap.size + 1) 0 0 0 ∧ Below w.heap.size w wx)
  case first =>
    go_wp2_with fail
    refine (clamped_any _ _ _ _).mono ?_
    rintro e w1 ⟨rfl, hb1⟩
    have HW := bcall HW hb1 hz
    have HA := HA.later hb1
    have HR := HR.later hb1
    obtain ⟨a0, a1, a2, fa0, fa1, fa2⟩ := id HA
    clear hb1
    go_wp2_with fail
    go_meet
    exact ⟨rfl, HA.put _ _ _, HR.far3 (by omega) _ _ _, bset3 HW (Nat.le_refl _)⟩
  case rest =>
    clear HA HR HW hz
    obtain ⟨rfl, HA, HR, HW⟩ := hcut
    have hz := HW.size
    obtain ⟨a0, a1, a2, fa0, fa1, fa2⟩ := id HA
    obtain ⟨r0, r1, r2, fr0, fr1, fr2⟩ := id HR
    by_cases hn : 1 ≤ n ∧ n ≤ 4096
    · obtain ⟨n0, n1⟩ := hn
      by_cases hi0 : i < -4096
      · have hi0' : decide (i < -4096) = true := decide_eq_true hi0
        go_wp2_with (go_at_call 31; refine (den_yes _ _ n0 n1).mono ?_; rintro e w' ⟨rfl, rfl⟩)
        exact bodyPost_ret (v := vec (cc x) (cc y) (cc z)) (by simp [results, Tryd.results19, go_sem, r0, r1, r2]) rfl ⟨ret_vec (scale_bad (by omega) _).symm (scale_bad (by omega) _).symm (scale_bad (by omega) _).symm, bset3 HW (by omega)⟩
      · have hi0' : decide (i < -4096) = false := decide_eq_false hi0
        by_cases hi1 : 4096 < i
        · have hi1' : decide (4096 < i) = true := decide_eq_true hi1
          go_wp2_with (go_at_call 31; refine (den_yes _ _ n0 n1).mono ?_; rintro e w' ⟨rfl, rfl⟩)
          exact bodyPost_ret (v := vec (cc x) (cc y) (cc z)) (by simp [results, Tryd.results19, go_sem, r0, r1, r2]) rfl ⟨ret_vec (scale_bad (by omega) _).symm (scale_bad (by omega) _).symm (scale_bad (by omega) _).symm, bset3 HW (by omega)⟩
        · have hi1' : decide (4096 < i) = false := decide_eq_false hi1
          have t0 := cc_times i x (by omega) (by omega)
          have t1 := cc_times i y (by omega) (by omega)
          have t2 := cc_times i z (by omega) (by omega)
          go_wp2_with fail
          refine (den_yes _ _ n0 n1).mono ?_
          rintro e w' ⟨rfl, rfl⟩
          go_wp2_with fail
          refine (times_any _ _ _ _ _ (by omega) (by omega) (by omega) (by omega) (by omega) (by omega)).mono ?_
          rintro e w1 ⟨rfl, hb1⟩
          have HW := bcall HW hb1 hz
          have hz := HW.size
          have HR := HR.later hb1
          clear a0 a1 a2 fa0 fa1 fa2 r0 r1 r2 fr0 fr1 fr2 hb1
          go_wp2_with fail
          refine (over_any _ _ _ _ _ (by omega) (by omega) (by omega) (by omega) (by omega) (by omega)).mono ?_
          rintro e w2 ⟨rfl, hb2⟩
          have HW := bcall HW hb2 hz
          have hz := HW.size
          have HR := HR.later hb2
          clear hb2
          go_wp2_with fail
          refine (clamped_any _ _ _ _).mono ?_
          rintro e w3 ⟨rfl, hb3⟩
          have HW := bcall HW hb3 hz
          have HR := HR.later hb3
          obtain ⟨r0, r1, r2, fr0, fr1, fr2⟩ := id HR
          clear hb3
          go_wp2_with fail
          exact bodyPost_ret (v := vec (cc (fdivP (i * cc x) n)) (cc (fdivP (i * cc y) n)) (cc (fdivP (i * cc z) n))) (by simp [results, Tryd.results19, go_sem, r0, r1, r2]) rfl ⟨ret_vec (scale_good (by omega) _).symm (scale_good (by omega) _).symm (scale_good (by omega) _).symm, bset3 HW (by omega)⟩
    · go_wp2_with (go_at_call 31; refine (den_no _ _ hn).mono ?_; rintro e w' ⟨rfl, rfl⟩)
      exact bodyPost_ret (v := vec (cc x) (cc y) (cc z)) (by simp [results, Tryd.results19, go_sem, r0, r1, r2]) rfl ⟨ret_vec (scale_bad (by omega) _).symm (scale_bad (by omega) _).symm (scale_bad (by omega) _).symm, bset3 HW (by omega)⟩




end Go.Proofs.YtjdafiijldfdaaaDoor
