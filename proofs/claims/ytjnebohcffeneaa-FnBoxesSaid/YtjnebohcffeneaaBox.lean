/- Contracts of chapter 4: words for boxes, their corners, and the laws own helpers. -/
import Derived.Test.YtjnebohcffeneaaProg
import Derived.Test.YtjnebohcffeneaaInts
import Derived.Test.YtjnebohcffeneaaVbox
import Derived.Test.YtjnebohcffeneaaVec
import Derived.Test.YtjnebohcffeneaaHeld
import Derived.WalkKit
import Derived.WalkSpells
import Derived.WalkLawsBesides
import Derived.Lib.Hide
import Derived.Deep.RegionHeld3
import Derived.Deep.QuietTactic
import Derived.BigQuiet
import Derived.Handy
import Derived.Deep.DeepCutAuto
namespace Go.Proofs.Ytjnebohcffeneaa
open Go.RowKit

abbrev box (a b c d e f : Int) : Value := .agg #[.int .i64 a, .int .i64 b, .int .i64 c, .int .i64 d, .int .i64 e, .int .i64 f]
def BoxOut (a b c d e f : Int) (w : World) (x : Ending) (w' : World) : Prop := x = .returned (box a b c d e f) ∧ Below w.heap.size w w'
def BoolOut2 (b : Bool) (w : World) (x : Ending) (w' : World) : Prop := x = .returned (.bool b) ∧ Below w.heap.size w w'
/-- no component of the first is greater than the second's -/
def le3 (x y z p q r : Int) : Bool := decide (x ≤ p) && (decide (y ≤ q) && decide (z ≤ r))
theorem le3_iff (x y z p q r : Int) : le3 x y z p q r = true ↔ x ≤ p ∧ y ≤ q ∧ z ≤ r := by simp [le3]
theorem le3_no {x y z p q r : Int} (h : ¬ (x ≤ p ∧ y ≤ q ∧ z ≤ r)) : false = le3 x y z p q r := (Bool.eq_false_iff.2 fun e => h ((le3_iff ..).1 e)).symm
theorem le3_yes {x y z p q r : Int} (h : x ≤ p ∧ y ≤ q ∧ z ≤ r) : true = le3 x y z p q r := ((le3_iff ..).2 h).symm
theorem Mbox.new6 (w : World) (a b c d e f : Value) (t : TypeId) : Mbox (w.alloc (.cells #[a, b, c, d, e, f] t)) w.heap.size [a, b, c, d, e, f] := Mbox.new w #[a, b, c, d, e, f] t
theorem Mbox.put6 {w : World} {k : Nat} {p q r s t u : Value} (h : Mbox w k [p, q, r, s, t, u]) (a b c d e f : Value) : Mbox ((((((w.setCell ⟨k, 0, none⟩ a).setCell ⟨k, 1, none⟩ b).setCell ⟨k, 2, none⟩ c).setCell ⟨k, 3, none⟩ d).setCell ⟨k, 4, none⟩ e).setCell ⟨k, 5, none⟩ f) k [a, b, c, d, e, f] :=
  (((((h.put 0 a).put 1 b).put 2 c).put 3 d).put 4 e).put 5 f
theorem bset6 {B k : Nat} {a w : World} {x y z p q r : Value} (h : Below B a w) (hk : B ≤ k) : Below B a ((((((w.setCell ⟨k, 0, none⟩ x).setCell ⟨k, 1, none⟩ y).setCell ⟨k, 2, none⟩ z).setCell ⟨k, 3, none⟩ p).setCell ⟨k, 4, none⟩ q).setCell ⟨k, 5, none⟩ r) :=
  (((((h.setCell (p := ⟨k, 0, none⟩) hk x).setCell (p := ⟨k, 1, none⟩) hk y).setCell (p := ⟨k, 2, none⟩) hk z).setCell (p := ⟨k, 3, none⟩) hk p).setCell (p := ⟨k, 4, none⟩) hk q).setCell (p := ⟨k, 5, none⟩) hk r

set_option maxHeartbeats 2000000 in
theorem corners_any (a b c d e f : Int) (w : World) :
    Calls Try.prog 35 #[box a b c d e f] w (BoxOut a b c d e f w) := by
  go_enter Try.func35, Try.ntmps35
  go_wp2_with fail
  exact bodyPost_ret (v := box a b c d e f) (by simp [results, Try.results35, go_sem]) rfl ⟨rfl, by go_grown⟩
theorem ret_bool {a b : Bool} (h : a = b) : Ending.returned (.bool a) = .returned (.bool b) := by rw [h]

set_option maxHeartbeats 2000000 in
theorem isBelow_any (x y z p q r : Int) (w : World) :
    Calls Try.prog 36 #[vec x y z, vec p q r] w (BoolOut2 (le3 x y z p q r) w) := by
  by_cases h0 : x ≤ p
  · by_cases h1 : y ≤ q
    · by_cases h2 : z ≤ r
      all_goals
        go_enter Try.func36, Try.ntmps36
        go_wp2_with fail
        go_ret
        exact ⟨ret_bool (by first | exact le3_yes ⟨by omega, by omega, by omega⟩ | exact le3_no (by omega)), by go_grown⟩
    · go_enter Try.func36, Try.ntmps36
      go_wp2_with fail
      go_ret
      exact ⟨ret_bool (le3_no (by omega)), by go_grown⟩
  · go_enter Try.func36, Try.ntmps36
    go_wp2_with fail
    go_ret
    exact ⟨ret_bool (le3_no (by omega)), by go_grown⟩

set_option maxHeartbeats 2000000 in
theorem toBox_any (a b c d e f : Int) (w : World) :
    Calls Try.prog 18 #[box a b c d e f] w (BoxOut a b c d e f w) := by
  have HT : Held w (((w.alloc (.cells #[.int .i64 a, .int .i64 b, .int .i64 c, .int .i64 d, .int .i64 e, .int .i64 f] 40)).alloc (.cells #[.int .i64 0, .int .i64 0, .int .i64 0, .int .i64 0, .int .i64 0, .int .i64 0] 26)).alloc (.cells #[.int .i64 0, .int .i64 0, .int .i64 0, .int .i64 0, .int .i64 0, .int .i64 0] 26)) [(w.heap.size + 2, [.int .i64 0, .int .i64 0, .int .i64 0, .int .i64 0, .int .i64 0, .int .i64 0]), (w.heap.size + 1, [.int .i64 0, .int .i64 0, .int .i64 0, .int .i64 0, .int .i64 0, .int .i64 0]), (w.heap.size, [.int .i64 a, .int .i64 b, .int .i64 c, .int .i64 d, .int .i64 e, .int .i64 f])] := by
    have h := (((Held.nil w).new #[.int .i64 a, .int .i64 b, .int .i64 c, .int .i64 d, .int .i64 e, .int .i64 f] 40).new #[.int .i64 0, .int .i64 0, .int .i64 0, .int .i64 0, .int .i64 0, .int .i64 0] 26).new #[.int .i64 0, .int .i64 0, .int .i64 0, .int .i64 0, .int .i64 0, .int .i64 0] 26
    simpa only [World.size_alloc] using h
  go_enter Try.func18, Try.ntmps18
  go_wp2_with fail
  refine (toVec_any _ _ _ _).mono ?_
  rintro e w1 ⟨rfl, hb1⟩
  have HT := HT.later hb1
  clear hb1
  have c0 := (HT.box 2).c 0
  have c1 := (HT.box 2).c 1
  have c2 := (HT.box 2).c 2
  have c3 := (HT.box 2).c 3
  have c4 := (HT.box 2).c 4
  have c5 := (HT.box 2).c 5
  have d0 := (HT.box 0).c 0
  have d1 := (HT.box 0).c 1
  have d2 := (HT.box 0).c 2
  have d3 := (HT.box 0).c 3
  have d4 := (HT.box 0).c 4
  have d5 := (HT.box 0).c 5
  have f0 := (HT.box 0).f 0
  have f1 := (HT.box 0).f 1
  have f2 := (HT.box 0).f 2
  have f3 := (HT.box 0).f 3
  have f4 := (HT.box 0).f 4
  have f5 := (HT.box 0).f 5
  have HT1 := (((HT.put (by omega) (by simp) 0 (.int .i64 a)).put (by omega) (by simp) 1 (.int .i64 b)).put (by omega) (by simp) 2 (.int .i64 c))
  have HS := Lib.hid HT1
  clear HT1 HT
  go_wp2_with fail
  refine (toVec_any _ _ _ _).mono ?_
  rintro e w2 ⟨rfl, hb2⟩
  have HT := HS.out.later hb2
  clear hb2 HS c0 d0 f0 c1 d1 f1 c2 d2 f2 c3 d3 f3 c4 d4 f4 c5 d5 f5
  have d0 := (HT.box 0).c 0
  have d1 := (HT.box 0).c 1
  have d2 := (HT.box 0).c 2
  have d3 := (HT.box 0).c 3
  have d4 := (HT.box 0).c 4
  have d5 := (HT.box 0).c 5
  have f0 := (HT.box 0).f 0
  have f1 := (HT.box 0).f 1
  have f2 := (HT.box 0).f 2
  have f3 := (HT.box 0).f 3
  have f4 := (HT.box 0).f 4
  have f5 := (HT.box 0).f 5
  have r0 := (HT.box 1).c 0
  have r1 := (HT.box 1).c 1
  have r2 := (HT.box 1).c 2
  have r3 := (HT.box 1).c 3
  have r4 := (HT.box 1).c 4
  have r5 := (HT.box 1).c 5
  have g0 := (HT.box 1).f 0
  have g1 := (HT.box 1).f 1
  have g2 := (HT.box 1).f 2
  have g3 := (HT.box 1).f 3
  have g4 := (HT.box 1).f 4
  have g5 := (HT.box 1).f 5
  have HW := HT.below
  clear HT
  go_wp2_with fail
  exact bodyPost_ret (v := box a b c d e f) (by simp [results, Try.results18, go_sem, r0, r1, r2, r3, r4, r5]) rfl ⟨rfl, bset6 (((HW.setCell (p := ⟨w.heap.size + 2, 3, none⟩) (by simp) _).setCell (p := ⟨w.heap.size + 2, 4, none⟩) (by simp) _).setCell (p := ⟨w.heap.size + 2, 5, none⟩) (by simp) _) (by omega)⟩

set_option maxHeartbeats 2000000 in
theorem eqBox_same (a b c d e f : Int) (w : World) :
    Calls Try.prog 23 #[box a b c d e f, box a b c d e f] w (BoolOut2 true w) := by
  have HT : Held w ((w.alloc (.cells #[.int .i64 a, .int .i64 b, .int .i64 c, .int .i64 d, .int .i64 e, .int .i64 f] 26)).alloc (.cells #[.int .i64 a, .int .i64 b, .int .i64 c, .int .i64 d, .int .i64 e, .int .i64 f] 26)) [(w.heap.size + 1, [.int .i64 a, .int .i64 b, .int .i64 c, .int .i64 d, .int .i64 e, .int .i64 f]), (w.heap.size, [.int .i64 a, .int .i64 b, .int .i64 c, .int .i64 d, .int .i64 e, .int .i64 f])] := by
    have h := ((Held.nil w).new #[.int .i64 a, .int .i64 b, .int .i64 c, .int .i64 d, .int .i64 e, .int .i64 f] 26).new #[.int .i64 a, .int .i64 b, .int .i64 c, .int .i64 d, .int .i64 e, .int .i64 f] 26
    simpa only [World.size_alloc] using h
  go_enter Try.func23, Try.ntmps23
  go_wp2_with fail
  refine (eqVec_same _ _ _ _).mono ?_
  rintro e w1 ⟨rfl, hb1⟩
  have HT := HT.later hb1
  clear hb1
  have c0 := (HT.box 1).c 0
  have c1 := (HT.box 1).c 1
  have c2 := (HT.box 1).c 2
  have c3 := (HT.box 1).c 3
  have c4 := (HT.box 1).c 4
  have c5 := (HT.box 1).c 5
  have d0 := (HT.box 0).c 0
  have d1 := (HT.box 0).c 1
  have d2 := (HT.box 0).c 2
  have d3 := (HT.box 0).c 3
  have d4 := (HT.box 0).c 4
  have d5 := (HT.box 0).c 5
  go_wp2_with fail
  refine (eqVec_same _ _ _ _).mono ?_
  rintro e w2 ⟨rfl, hb2⟩
  have HT := HT.later hb2
  clear hb2 c0 d0 c1 d1 c2 d2 c3 d3 c4 d4 c5 d5
  go_wp2_with fail
  go_ret
  exact ⟨rfl, HT.below⟩
end Go.Proofs.Ytjnebohcffeneaa
