/- Contracts of Project: the program and its model. -/
import Derived.Test.YtjjafbcfmijppaaProg
import Derived.Test.YtjjafbcfmijppaaInts
import Derived.Test.YtjjafbcfmijppaaVbox
import Derived.Test.YtjjafbcfmijppaaVec
import Derived.Test.YtjjafbcfmijppaaHeld
import Derived.Test.YtjjafbcfmijppaaCam
import Derived.WalkKit
import Derived.WalkSpells
import Derived.WalkLawsBesides
import Derived.Lib.Hide
import Derived.Deep.RegionHeld3
import Derived.Deep.QuietTactic
import Derived.BigQuiet
import Derived.Handy
import Derived.Deep.DeepCutAuto
namespace Go.Proofs.Ytjjafbcfmijppaa
open Go.RowKit

/-- the shift at a lens position; the division of a projection; a place on the screen -/
def shf (f g l z : Int) : Int := fdivP (l * f * (z - g)) 4096
def prj (e : Bool) (z n : Int) : Int := fdivP n (if e = true then z else 256)
def scr (n : Int) : Int := clampP n (-100000) 100000
def pjc (a c : Int) (e : Bool) (s z v : Int) : Int := scr (prj e z ((v + s) * c) + a * 8)
/-- a point is projected -/
def pjB (a b c d f g x y z l m : Int) : Bool := okC a b c d f g && (okB x y z && (decide (d ≤ z) && (inC (-16) 16 l && inC (-16) 16 m)))
def pjV (k : Bool) (n : Int) : Int := if k = true then n else 0
def PjOut (k : Bool) (X Y Z : Int) (w : World) (e : Ending) (w' : World) : Prop := e = .returned (.tuple #[vec (pjV k X) (pjV k Y) (pjV k Z), .bool k]) ∧ Below w.heap.size w w'
theorem ret_pj {X Y Z : Int} {k k' : Bool} (h : k = k') : Ending.returned (.tuple #[vec (pjV k X) (pjV k Y) (pjV k Z), .bool k]) = .returned (.tuple #[vec (pjV k' X) (pjV k' Y) (pjV k' Z), .bool k']) := by rw [h]
theorem pj_z {a b c d f g x y z l m : Int} (hk : okC a b c d f g = true) (hv : okB x y z = true) (hz : decide (d ≤ z) = false) : false = pjB a b c d f g x y z l m := by unfold pjB; rw [hk, hv, hz]; rfl
theorem pj_l {a b c d f g x y z l m : Int} (h : inC (-16) 16 l = false) : false = pjB a b c d f g x y z l m := by unfold pjB; rw [h]; cases okC a b c d f g <;> cases okB x y z <;> cases decide (d ≤ z) <;> rfl
theorem pj_m {a b c d f g x y z l m : Int} (h : inC (-16) 16 m = false) : false = pjB a b c d f g x y z l m := by unfold pjB; rw [h]; cases okC a b c d f g <;> cases okB x y z <;> cases decide (d ≤ z) <;> cases inC (-16) 16 l <;> rfl
theorem pj_yes {a b c d f g x y z l m : Int} (hk : okC a b c d f g = true) (hv : okB x y z = true) (hz : decide (d ≤ z) = true) (hl : inC (-16) 16 l = true) (hm : inC (-16) 16 m = true) : true = pjB a b c d f g x y z l m := by unfold pjB; rw [hk, hv, hz, hl, hm]; rfl
theorem fdiv_le (n z M : Int) (hM : 0 ≤ M) (h0 : -M ≤ n) (h1 : n ≤ M) (hz : 1 ≤ z) : -M ≤ fdivP n z ∧ fdivP n z ≤ M := by
  unfold fdivP
  rw [if_neg (by omega)]
  have hm : M ≤ M * z := by
    have := Int.mul_le_mul_of_nonneg_left hz hM
    omega
  refine ⟨(Int.le_ediv_iff_mul_le (by omega)).2 ?_, ?_⟩
  · have e : -M * z = -(M * z) := Int.neg_mul ..
    omega
  · have := Int.ediv_lt_of_lt_mul (a := n) (b := M + 1) (c := z) (by omega) (by rw [Int.add_mul]; omega)
    omega
theorem shf_bd (f g l z : Int) (hf : 0 ≤ f ∧ f ≤ 64) (hg : 0 ≤ g ∧ g ≤ 1000000) (hl : -16 ≤ l ∧ l ≤ 16) (hz : -1000000 ≤ z ∧ z ≤ 1000000) :
    (-1024 ≤ l * f ∧ l * f ≤ 1024) ∧ (-2048000000 ≤ l * f * (z - g) ∧ l * f * (z - g) ≤ 2048000000) ∧ -500001 ≤ shf f g l z ∧ shf f g l z ≤ 500001 := by
  have h1 := mul_bd (a := l) (b := f) (m := 16) (n := 64) (by omega) (by omega)
  have h2 := mul_bd (a := l * f) (b := z - g) (m := 1024) (n := 2000000) (by omega) (by omega)
  have h3 := fdivP_mul (l * f * (z - g)) 4096 (by omega)
  unfold shf
  omega
theorem prj_bd (e : Bool) (z n : Int) (hz : 1 ≤ z) (h0 : -100000000000 ≤ n) (h1 : n ≤ 100000000000) : -100000000000 ≤ prj e z n ∧ prj e z n ≤ 100000000000 := by
  unfold prj
  split
  · exact fdiv_le n z _ (by omega) h0 h1 hz
  · exact fdiv_le n 256 _ (by omega) h0 h1 (by omega)
theorem arm_bd (s v c : Int) (hs : -500001 ≤ s ∧ s ≤ 500001) (hv : -1000000 ≤ v ∧ v ≤ 1000000) (hc : 1 ≤ c ∧ c ≤ 65536) : -100000000000 ≤ (v + s) * c ∧ (v + s) * c ≤ 100000000000 := by
  have := mul_bd (a := v + s) (b := c) (m := 1500001) (n := 65536) (by omega) (by omega)
  omega
theorem half_a (a : Int) : (a * 16).tdiv 2 = a * 8 := by
  rw [show a * 16 = a * 8 * 2 by omega]
  exact Int.mul_tdiv_cancel _ (by decide)



set_option maxHeartbeats 2000000 in
theorem clampScreen_any (n : Int) (w : World) :
    Calls Try.prog 51 #[.int .i64 n] w (fun x w' => x = .returned (.int .i64 (scr n)) ∧ w = w') := by
  go_enter Try.func51, Try.ntmps51
  go_wp2_with (go_at_call 64; refine (clamp_any _ _ _ _).mono ?_; rintro e w' ⟨rfl, rfl⟩)
  go_ret
  exact ⟨ret_int rfl, rfl⟩







end Go.Proofs.Ytjjafbcfmijppaa
