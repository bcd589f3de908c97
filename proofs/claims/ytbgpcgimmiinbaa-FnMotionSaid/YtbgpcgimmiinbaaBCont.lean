/- Contracts of BoxContains: the program and its model. -/
import Derived.Test.YtbgpcgimmiinbaaProg
import Derived.Test.YtbgpcgimmiinbaaInts
import Derived.Test.YtbgpcgimmiinbaaVbox
import Derived.Test.YtbgpcgimmiinbaaVec
import Derived.Test.YtbgpcgimmiinbaaHeld
import Derived.Test.YtbgpcgimmiinbaaBox
import Derived.WalkKit
import Derived.WalkSpells
import Derived.WalkLawsBesides
import Derived.Lib.Hide
import Derived.Deep.RegionHeld3
import Derived.Deep.QuietTactic
import Derived.BigQuiet
import Derived.Handy
import Derived.Deep.DeepCutAuto
namespace Go.Proofs.Ytbgpcgimmiinbaa
open Go.RowKit

/-- a box contains a point -/
def inB (a b c d e f x y z : Int) : Bool := decide ((a ≤ x ∧ x ≤ d) ∧ (b ≤ y ∧ y ≤ e) ∧ (c ≤ z ∧ z ≤ f))
theorem inB_iff (a b c d e f x y z : Int) : inB a b c d e f x y z = true ↔ (a ≤ x ∧ x ≤ d) ∧ (b ≤ y ∧ y ≤ e) ∧ (c ≤ z ∧ z ≤ f) := by simp [inB]
theorem inB_le {a b c d e f x y z : Int} (h : le3 a b c x y z = true) : le3 x y z d e f = inB a b c d e f x y z := by
  have := (le3_iff ..).1 h
  rw [Bool.eq_iff_iff, le3_iff, inB_iff]
  omega
theorem inB_not {a b c d e f x y z : Int} (h : le3 a b c x y z = false) : false = inB a b c d e f x y z := by
  rw [eq_comm, Bool.eq_false_iff]
  intro k
  have h' : ¬ le3 a b c x y z = true := by rw [h]; simp
  rw [inB_iff] at k
  rw [le3_iff] at h'
  omega
theorem inB_no {a b c d e f x y z : Int} (h : ¬ ((a ≤ x ∧ x ≤ d) ∧ (b ≤ y ∧ y ≤ e) ∧ (c ≤ z ∧ z ≤ f))) : false = inB a b c d e f x y z := by simp [inB]; omega
theorem inB_yes {a b c d e f x y z : Int} (h : (a ≤ x ∧ x ≤ d) ∧ (b ≤ y ∧ y ≤ e) ∧ (c ≤ z ∧ z ≤ f)) : true = inB a b c d e f x y z := ((inB_iff ..).2 h).symm

set_option maxHeartbeats 2000000 in
theorem isAbove_any (x y z p q r : Int) (w : World) :
    Calls Try.prog 52 #[vec x y z, vec p q r] w (BoolOut2 (le3 p q r x y z) w) := by
  by_cases h0 : p ≤ x
  · by_cases h1 : q ≤ y
    · by_cases h2 : r ≤ z
      all_goals
        go_enter Try.func52, Try.ntmps52
        go_wp2_with fail
        go_ret
        exact ⟨ret_bool (by first | exact le3_yes ⟨by omega, by omega, by omega⟩ | exact le3_no (by omega)), by go_grown⟩
    · go_enter Try.func52, Try.ntmps52
      go_wp2_with fail
      go_ret
      exact ⟨ret_bool (le3_no (by omega)), by go_grown⟩
  · go_enter Try.func52, Try.ntmps52
    go_wp2_with fail
    go_ret
    exact ⟨ret_bool (le3_no (by omega)), by go_grown⟩

set_option maxHeartbeats 2000000 in
theorem boxContains_any (a b c d e f x y z : Int) (w : World) :
    Calls Try.prog 18 #[box a b c d e f, vec x y z] w (BoolOut2 (inB a b c d e f x y z) w) := by
  have HT : Held w ((w.alloc (.cells #[.int .i64 a, .int .i64 b, .int .i64 c, .int .i64 d, .int .i64 e, .int .i64 f] 44)).alloc (.cells #[.int .i64 x, .int .i64 y, .int .i64 z] 37)) [(w.heap.size + 1, [.int .i64 x, .int .i64 y, .int .i64 z]), (w.heap.size, [.int .i64 a, .int .i64 b, .int .i64 c, .int .i64 d, .int .i64 e, .int .i64 f])] := by
    have h := ((Held.nil w).new #[.int .i64 a, .int .i64 b, .int .i64 c, .int .i64 d, .int .i64 e, .int .i64 f] 44).new #[.int .i64 x, .int .i64 y, .int .i64 z] 37
    simpa only [World.size_alloc] using h
  go_enter Try.func18, Try.ntmps18
  go_wp2_with fail
  refine (corners_any _ _ _ _ _ _ _).mono ?_
  rintro e w1 ⟨rfl, hb1⟩
  have HT := (HT.later hb1).new #[.int .i64 a, .int .i64 b, .int .i64 c, .int .i64 d, .int .i64 e, .int .i64 f] 88
  clear hb1
  have c0 := (HT.box 0).c 0
  have c1 := (HT.box 0).c 1
  have c2 := (HT.box 0).c 2
  have c3 := (HT.box 0).c 3
  have c4 := (HT.box 0).c 4
  have c5 := (HT.box 0).c 5
  have d0 := (HT.box 1).c 0
  have d1 := (HT.box 1).c 1
  have d2 := (HT.box 1).c 2
  go_wp2_with fail
  refine (isBelow_any _ _ _ _ _ _ _).mono ?_
  rintro e w2 ⟨rfl, hb2⟩
  have HT := HT.later hb2
  clear hb2 c0 c1 c2 c3 c4 c5 d0 d1 d2
  rcases h0 : le3 a b c x y z with _ | _
  · go_wp2_with fail
    go_ret
    exact ⟨ret_bool (inB_not h0), HT.below⟩
  have c0 := (HT.box 0).c 0
  have c1 := (HT.box 0).c 1
  have c2 := (HT.box 0).c 2
  have c3 := (HT.box 0).c 3
  have c4 := (HT.box 0).c 4
  have c5 := (HT.box 0).c 5
  have d0 := (HT.box 1).c 0
  have d1 := (HT.box 1).c 1
  have d2 := (HT.box 1).c 2
  go_wp2_with fail
  refine (isAbove_any _ _ _ _ _ _ _).mono ?_
  rintro e w3 ⟨rfl, hb3⟩
  have HT := HT.later hb3
  clear hb3 c0 c1 c2 c3 c4 c5 d0 d1 d2
  go_wp2_with fail
  go_ret
  exact ⟨ret_bool (inB_le h0), HT.below⟩

end Go.Proofs.Ytbgpcgimmiinbaa
