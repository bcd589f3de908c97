/- Contracts of MaxVec: the program and its model. -/
import Derived.Test.YtbgpcgimmiinbaaProg
import Derived.Test.YtbgpcgimmiinbaaInts
import Derived.Test.YtbgpcgimmiinbaaVbox
import Derived.Test.YtbgpcgimmiinbaaVec
import Derived.WalkKit
import Derived.WalkSpells
import Derived.WalkLawsBesides
import Derived.Lib.Hide
import Derived.Deep.RegionHeld3
import Derived.Deep.QuietTactic
import Derived.BigQuiet
import Derived.Handy
import Derived.Deep.DeepCutAuto
import Derived.Laws.StructEq
namespace Go.Proofs.Ytbgpcgimmiinbaa
open Go.RowKit

set_option maxHeartbeats 2000000 in
theorem maxVec_any (x y z p q r : Int) (w : World) :
    Calls Try.prog 48 #[vec x y z, vec p q r] w (VecOut (mxP (cc x) (cc p)) (mxP (cc y) (cc q)) (mxP (cc z) (cc r)) w) := by
  have e0 : (if cc x < cc p then cc p else cc x) = mxP (cc x) (cc p) := rfl
  have e1 : (if cc y < cc q then cc q else cc y) = mxP (cc y) (cc q) := rfl
  have e2 : (if cc z < cc r then cc r else cc z) = mxP (cc z) (cc r) := rfl
  have HA : Vbox (((w.alloc (.cells #[.int .i64 x, .int .i64 y, .int .i64 z] 37)).alloc (.cells #[.int .i64 p, .int .i64 q, .int .i64 r] 37)).alloc (.cells #[.int .i64 0, .int .i64 0, .int .i64 0] 37)).drew w.heap.size x y z := ((Vbox.new w x y z _).alloc _).alloc _
  have HB : Vbox (((w.alloc (.cells #[.int .i64 x, .int .i64 y, .int .i64 z] 37)).alloc (.cells #[.int .i64 p, .int .i64 q, .int .i64 r] 37)).alloc (.cells #[.int .i64 0, .int .i64 0, .int .i64 0] 37)).drew (w.heap.size + 1) p q r := (Vbox.new1 w _ p q r _).alloc _
  have HR : Vbox (((w.alloc (.cells #[.int .i64 x, .int .i64 y, .int .i64 z] 37)).alloc (.cells #[.int .i64 p, .int .i64 q, .int .i64 r] 37)).alloc (.cells #[.int .i64 0, .int .i64 0, .int .i64 0] 37)).drew (w.heap.size + 2) 0 0 0 := Vbox.new2 w _ _ 0 0 0 _
  have HW : Below w.heap.size w (((w.alloc (.cells #[.int .i64 x, .int .i64 y, .int .i64 z] 37)).alloc (.cells #[.int .i64 p, .int .i64 q, .int .i64 r] 37)).alloc (.cells #[.int .i64 0, .int .i64 0, .int .i64 0] 37)).drew := by go_grown
  have hz : w.heap.size ≤ (((w.alloc (.cells #[.int .i64 x, .int .i64 y, .int .i64 z] 37)).alloc (.cells #[.int .i64 p, .int .i64 q, .int .i64 r] 37)).alloc (.cells #[.int .i64 0, .int .i64 0, .int .i64 0] 37)).drew.heap.size := by simp; omega
  go_enter Try.func48, Try.ntmps48
  go_upto_region 1 with fail
  go_cut [2] (fun s wx => s = .pointer (some ⟨w.heap.size, 0, none⟩) ∧ Vbox wx w.heap.size (cc x) (cc y) (cc z) ∧ Vbox wx (w.heap.size + 1) (cc p) (cc q) (cc r) ∧ Vbox wx (w.heap.size + 2) 0 0 0 ∧ Below w.heap.size w wx)
  case first =>
    go_region_with (first | (go_at_call 65; refine (clamped_any _ _ _ _).mono ?_; rintro e w1 ⟨rfl, hb1⟩; have HW := bcall HW hb1 hz; have hz : w.heap.size ≤ w1.heap.size := HW.size; have HA := HA.later hb1; have HB := HB.later hb1; have HR := HR.later hb1; obtain ⟨ha0, ha1, ha2, ga0, ga1, ga2⟩ := id HA; obtain ⟨hb0, hb1, hb2, gb0, gb1, gb2⟩ := id HB))
    all_goals (go_wp2_with fail; go_meet; exact ⟨rfl, (HA.put _ _ _).far3 (by omega) _ _ _, (HB.far3 (by omega) _ _ _).put _ _ _, (HR.far3 (by omega) _ _ _).far3 (by omega) _ _ _, bset3 (bset3 HW (Nat.le_refl _)) (by omega)⟩)
  case rest =>
    clear HA HB HR HW hz
    obtain ⟨rfl, HA, HB, HR, HW⟩ := hcut
    have hz := HW.size
    obtain ⟨a0, a1, a2, fa0, fa1, fa2⟩ := id HA
    obtain ⟨c0, c1, c2, fc0, fc1, fc2⟩ := id HB
    obtain ⟨r0, r1, r2, fr0, fr1, fr2⟩ := id HR

    go_wp2_with fail
    exact bodyPost_ret (v := vec (mxP (cc x) (cc p)) (mxP (cc y) (cc q)) (mxP (cc z) (cc r))) (by simp [results, Try.results48, go_sem, r0, r1, r2]) rfl ⟨rfl, bset3 HW (by omega)⟩



end Go.Proofs.Ytbgpcgimmiinbaa
