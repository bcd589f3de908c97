/- Contracts of chapter 4: words for boxes, their corners, and the laws own helpers. -/
import Derived.Test.YtbgpcgimmiinbaaProg
import Derived.Test.YtbgpcgimmiinbaaInts
import Derived.Test.YtbgpcgimmiinbaaVbox
import Derived.Test.YtbgpcgimmiinbaaVec
import Derived.Test.YtbgpcgimmiinbaaHeld
import Derived.WalkKit
import Derived.WalkSpells
import Derived.WalkLawsBesides
import Derived.Lib.Hide
import Derived.Deep.RegionHeld3
import Derived.Deep.QuietTactic
import Derived.BigQuiet
import Derived.Handy
import Derived.Deep.DeepCutAuto
namespace Go.Proofs.Ytbgpcgimmiinbaa
open Go.RowKit

abbrev box (a b c d e f : Int) : Value := .agg #[.int .i64 a, .int .i64 b, .int .i64 c, .int .i64 d, .int .i64 e, .int .i64 f]
def BoxOut (a b c d e f : Int) (w : World) (x : Ending) (w' : World) : Prop := x = .returned (box a b c d e f) ∧ Below w.heap.size w w'
def BoolOut2 (b : Bool) (w : World) (x : Ending) (w' : World) : Prop := x = .returned (.bool b) ∧ Below w.heap.size w w'
/-- no component of the first is greater than the second's -/
def le3 (x y z p q r : Int) : Bool := decide (x ≤ p) && (decide (y ≤ q) && decide (z ≤ r))
theorem le3_iff (x y z p q r : Int) : le3 x y z p q r = true ↔ x ≤ p ∧ y ≤ q ∧ z ≤ r := by simp [le3]
theorem le3_no {x y z p q r : Int} (h : ¬ (x ≤ p ∧ y ≤ q ∧ z ≤ r)) : false = le3 x y z p q r := (Bool.eq_false_iff.2 fun e => h ((le3_iff ..).1 e)).symm
theorem le3_yes {x y z p q r : Int} (h : x ≤ p ∧ y ≤ q ∧ z ≤ r) : true = le3 x y z p q r := ((le3_iff ..).2 h).symm
theorem Mbox.new6 (w : World) (a b c d e f : Value) (t : TypeId) : Mbox (w.alloc (.cells #[a, b, c, d, e, f] t)) w.heap.size [a, b, c, d, e, f] := Mbox.new w #[a, b, c, d, e, f] t
theorem Mbox.put6 {w : World} {k : Nat} {p q r s t u : Value} (h : Mbox w k [p, q, r, s, t, u]) (a b c d e f : Value) : Mbox ((((((w.setCell ⟨k, 0, none⟩ a).setCell ⟨k, 1, none⟩ b).setCell ⟨k, 2, none⟩ c).setCell ⟨k, 3, none⟩ d).setCell ⟨k, 4, none⟩ e).setCell ⟨k, 5, none⟩ f) k [a, b, c, d, e, f] :=
  (((((h.put 0 a).put 1 b).put 2 c).put 3 d).put 4 e).put 5 f
theorem bset6 {B k : Nat} {a w : World} {x y z p q r : Value} (h : Below B a w) (hk : B ≤ k) : Below B a ((((((w.setCell ⟨k, 0, none⟩ x).setCell ⟨k, 1, none⟩ y).setCell ⟨k, 2, none⟩ z).setCell ⟨k, 3, none⟩ p).setCell ⟨k, 4, none⟩ q).setCell ⟨k, 5, none⟩ r) :=
  (((((h.setCell (p := ⟨k, 0, none⟩) hk x).setCell (p := ⟨k, 1, none⟩) hk y).setCell (p := ⟨k, 2, none⟩) hk z).setCell (p := ⟨k, 3, none⟩) hk p).setCell (p := ⟨k, 4, none⟩) hk q).setCell (p := ⟨k, 5, none⟩) hk r

set_option maxHeartbeats 2000000 in
theorem corners_any (a b c d e f : Int) (w : World) :
    Calls Try.prog 50 #[box a b c d e f] w (BoxOut a b c d e f w) := by
  go_enter Try.func50, Try.ntmps50
  go_wp2_with fail
  exact bodyPost_ret (v := box a b c d e f) (by simp [results, Try.results50, go_sem]) rfl ⟨rfl, by go_grown⟩
theorem ret_bool {a b : Bool} (h : a = b) : Ending.returned (.bool a) = .returned (.bool b) := by rw [h]

set_option maxHeartbeats 2000000 in
theorem isBelow_any (x y z p q r : Int) (w : World) :
    Calls Try.prog 51 #[vec x y z, vec p q r] w (BoolOut2 (le3 x y z p q r) w) := by
  by_cases h0 : x ≤ p
  · by_cases h1 : y ≤ q
    · by_cases h2 : z ≤ r
      all_goals
        go_enter Try.func51, Try.ntmps51
        go_wp2_with fail
        go_ret
        exact ⟨ret_bool (by first | exact le3_yes ⟨by omega, by omega, by omega⟩ | exact le3_no (by omega)), by go_grown⟩
    · go_enter Try.func51, Try.ntmps51
      go_wp2_with fail
      go_ret
      exact ⟨ret_bool (le3_no (by omega)), by go_grown⟩
  · go_enter Try.func51, Try.ntmps51
    go_wp2_with fail
    go_ret
    exact ⟨ret_bool (le3_no (by omega)), by go_grown⟩


end Go.Proofs.Ytbgpcgimmiinbaa
