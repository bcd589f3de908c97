/- Contracts of Dot: the program and its model. -/
import Derived.Test.YtjflkapdnnecjaaDoorProg
import Derived.Test.YtjflkapdnnecjaaDoorInts
import Derived.Test.YtjflkapdnnecjaaDoorVbox
import Derived.Test.YtjflkapdnnecjaaDoorVec
import Derived.WalkKit
import Derived.WalkSpells
import Derived.WalkLawsBesides
import Derived.Lib.Hide
import Derived.Deep.RegionHeld3
import Derived.Deep.QuietTactic
import Derived.BigQuiet
import Derived.Handy
import Derived.Deep.DeepCutAuto
import Derived.Laws.StructEq
namespace Go.Proofs.YtjflkapdnnecjaaDoor
open Go.RowKit

set_option maxHeartbeats 2000000 in
theorem dot_any (x y z p q r : Int) (w : World) :
    Calls Tryd.prog 46 #[vec x y z, vec p q r] w fun e w' => e = .returned (.int .i64 (cc x * cc p + cc y * cc q + cc z * cc r)) ∧ Below w.heap.size w w' := by
  have m0 := cc_mul x p
  have m1 := cc_mul y q
  have m2 := cc_mul z r
  have HA : Vbox ((w.alloc (.cells #[.int .i64 x, .int .i64 y, .int .i64 z] 24)).alloc (.cells #[.int .i64 p, .int .i64 q, .int .i64 r] 24)).drew w.heap.size x y z := (Vbox.new w x y z _).alloc _
  have HB : Vbox ((w.alloc (.cells #[.int .i64 x, .int .i64 y, .int .i64 z] 24)).alloc (.cells #[.int .i64 p, .int .i64 q, .int .i64 r] 24)).drew (w.heap.size + 1) p q r := Vbox.new1 w _ p q r _
  have HW : Below w.heap.size w ((w.alloc (.cells #[.int .i64 x, .int .i64 y, .int .i64 z] 24)).alloc (.cells #[.int .i64 p, .int .i64 q, .int .i64 r] 24)).drew := by go_grown
  have hz : w.heap.size ≤ ((w.alloc (.cells #[.int .i64 x, .int .i64 y, .int .i64 z] 24)).alloc (.cells #[.int .i64 p, .int .i64 q, .int .i64 r] 24)).drew.heap.size := by simp; omega
  go_enter Tryd.func46, Tryd.ntmps46
  go_upto_region 1 with fail
  go_cut [2] (fun s wx => s = .pointer (some ⟨w.heap.size, 0, none⟩) ∧ Vbox wx w.heap.size (cc x) (cc y) (cc z) ∧ Vbox wx (w.heap.size + 1) (cc p) (cc q) (cc r) ∧ Below w.heap.size w wx)
  case first =>
    go_region_with (first | (go_at_call 44; refine (clamped_any _ _ _ _).mono ?_; rintro e w1 ⟨rfl, hb1⟩; have HW := bcall HW hb1 hz; have hz : w.heap.size ≤ w1.heap.size := HW.size; have HA := HA.later hb1; have HB := HB.later hb1; obtain ⟨ha0, ha1, ha2, ga0, ga1, ga2⟩ := id HA; obtain ⟨hb0, hb1, hb2, gb0, gb1, gb2⟩ := id HB))
    all_goals (go_wp2_with fail; go_meet; exact ⟨rfl, (HA.put _ _ _).far3 (by omega) _ _ _, (HB.far3 (by omega) _ _ _).put _ _ _, bset3 (bset3 HW (Nat.le_refl _)) (by omega)⟩)
  case rest =>
    clear HA HB HW hz
    obtain ⟨rfl, HA, HB, HW⟩ := hcut
    have hz := HW.size
    obtain ⟨a0, a1, a2, fa0, fa1, fa2⟩ := id HA
    obtain ⟨c0, c1, c2, fc0, fc1, fc2⟩ := id HB


    go_wp2_with fail
    go_ret
    exact ⟨rfl, HW⟩







end Go.Proofs.YtjflkapdnnecjaaDoor
