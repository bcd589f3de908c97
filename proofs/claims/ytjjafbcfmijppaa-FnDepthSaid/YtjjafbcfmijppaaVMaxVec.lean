/- Contracts of MaxVec: the program and its model. -/
import Derived.Test.YtjjafbcfmijppaaProg
import Derived.Test.YtjjafbcfmijppaaInts
import Derived.Test.YtjjafbcfmijppaaVbox
import Derived.Test.YtjjafbcfmijppaaVec
import Derived.WalkKit
import Derived.WalkSpells
import Derived.WalkLawsBesides
import Derived.Lib.Hide
import Derived.Deep.RegionHeld3
import Derived.Deep.QuietTactic
import Derived.BigQuiet
import Derived.Handy
import Derived.Deep.DeepCutAuto
import Derived.Laws.StructEq
namespace Go.Proofs.Ytjjafbcfmijppaa
open Go.RowKit

set_option maxHeartbeats 2000000 in
theorem maxVec_any (x y z p q r : Int) (w : World) :
    Calls Try.prog 68 #[vec x y z, vec p q r] w (VecOut (mxP (cc x) (cc p)) (mxP (cc y) (cc q)) (mxP (cc z) (cc r)) w) := by
  have e0 : (if cc x < cc p then cc p else cc x) = mxP (cc x) (cc p) := rfl
  have e1 : (if cc y < cc q then cc q else cc y) = mxP (cc y) (cc q) := rfl
  have e2 : (if cc z < cc r then cc r else cc z) = mxP (cc z) (cc r) := rfl
  have HA : Vbox (((w.alloc (.cells #[.int .i64 x, .int .i64 y, .int .i64 z] 24)).alloc (.cells #[.int .i64 p, .int .i64 q, .int .i64 r] 24)).alloc (.cells #[.int .i64 0, .int .i64 0, .int .i64 0] 24)).drew w.heap.size x y z := ((Vbox.new w x y z _).alloc _).alloc _
  have HB : Vbox (((w.alloc (.cells #[.int .i64 x, .int .i64 y, .int .i64 z] 24)).alloc (.cells #[.int .i64 p, .int .i64 q, .int .i64 r] 24)).alloc (.cells #[.int .i64 0, .int .i64 0, .int .i64 0] 24)).drew (w.heap.size + 1) p q r := (Vbox.new1 w _ p q r _).alloc _
  have HR : Vbox (((w.alloc (.cells #[.int .i64 x, .int .i64 y, .int .i64 z] 24)).alloc (.cells #[.int .i64 p, .int .i64 q, .int .i64 r] 24)).alloc (.cells #[.int .i64 0, .int .i64 0, .int .i64 0] 24)).drew (w.heap.size + 2) 0 0 0 := Vbox.new2 w _ _ 0 0 0 _
  have HW : Below w.heap.size w (((w.alloc (.cells #[.int .i64 x, .int .i64 y, .int .i64 z] 24)).alloc (.cells #[.int .i64 p, .int .i64 q, .int .i64 r] 24)).alloc (.cells #[.int .i64 0, .int .i64 0, .int .i64 0] 24)).drew := by go_grown
  have hz : w.heap.size ≤ (((w.alloc (.cells #[.int .i64 x, .int .i64 y, .int .i64 z] 24)).alloc (.cells #[.int .i64 p, .int .i64 q, .int .i64 r] 24)).alloc (.cells #[.int .i64 0, .int .i64 0, .int .i64 0] 24)).drew.heap.size := by simp; omega
  go_enter Try.func68, Try.ntmps68
  go_upto_region 1 with fail
  go_cut [2] (fun s wx => s = .pointer (some ⟨w.heap.size, 0, none⟩) ∧ Vbox wx w.heap.size (cc x) (cc y) (cc z) ∧ Vbox wx (w.heap.size + 1) (cc p) (cc q) (cc r) ∧ Vbox wx (w.heap.size + 2) 0 0 0 ∧ Below w.heap.size w wx)
  case first =>
    go_region_with (first | (go_at_call 66; refine (clamped_any _ _ _ _).mono ?_; rintro e w1 ⟨rfl, hb1⟩; have HW := bcall HW hb1 hz; have hz : w.heap.size ≤ w1.heap.size := HW.size; have HA := HA.later hb1; have HB := HB.later hb1; have HR := HR.later hb1; obtain ⟨ha0, ha1, ha2, ga0, ga1, ga2⟩ := id HA; obtain ⟨hb0, hb1, hb2, gb0, gb1, gb2⟩ := id HB))
    all_goals (go_wp2_with fail; go_meet; exact ⟨rfl, (HA.put _ _ _).far3 (by omega) _ _ _, (HB.far3 (by omega) _ _ _).put _ _ _, (HR.far3 (by omega) _ _ _).far3 (by omega) _ _ _, bset3 (bset3 HW (Nat.le_refl _)) (by omega)⟩)
  case rest =>
    clear HA HB HR HW hz
    obtain ⟨rfl, HA, HB, HR, HW⟩ := hcut
    have hz := HW.size
    obtain ⟨a0, a1, a2, fa0, fa1, fa2⟩ := id HA
    obtain ⟨c0, c1, c2, fc0, fc1, fc2⟩ := id HB
    obtain ⟨r0, r1, r2, fr0, fr1, fr2⟩ := id HR

    go_wp2_with fail
    exact bodyPost_ret (v := vec (mxP (cc x) (cc p)) (mxP (cc y) (cc q)) (mxP (cc z) (cc r))) (by simp [results, Try.results68, go_sem, r0, r1, r2]) rfl ⟨rfl, bset3 HW (by omega)⟩

set_option maxHeartbeats 2000000 in
theorem sMaxVec_any (x y z p q r : Int) (w : World) :
    Calls Try.prog 61 #[vec x y z, vec p q r] w (VecOut (mxP (cc x) (cc p)) (mxP (cc y) (cc q)) (mxP (cc z) (cc r)) w) := by
  have HB : Vbox (((w.alloc (.cells #[.int .i64 x, .int .i64 y, .int .i64 z] 24)).alloc (.cells #[.int .i64 p, .int .i64 q, .int .i64 r] 24)).alloc (.cells #[.int .i64 0, .int .i64 0, .int .i64 0] 24)) (w.heap.size + 1) p q r := (Vbox.new1 w _ p q r _).alloc _
  have HR : Vbox (((w.alloc (.cells #[.int .i64 x, .int .i64 y, .int .i64 z] 24)).alloc (.cells #[.int .i64 p, .int .i64 q, .int .i64 r] 24)).alloc (.cells #[.int .i64 0, .int .i64 0, .int .i64 0] 24)) (w.heap.size + 2) 0 0 0 := Vbox.new2 w _ _ 0 0 0 _
  have HW : Below w.heap.size w (((w.alloc (.cells #[.int .i64 x, .int .i64 y, .int .i64 z] 24)).alloc (.cells #[.int .i64 p, .int .i64 q, .int .i64 r] 24)).alloc (.cells #[.int .i64 0, .int .i64 0, .int .i64 0] 24)) := by go_grown
  have hz : w.heap.size ≤ (((w.alloc (.cells #[.int .i64 x, .int .i64 y, .int .i64 z] 24)).alloc (.cells #[.int .i64 p, .int .i64 q, .int .i64 r] 24)).alloc (.cells #[.int .i64 0, .int .i64 0, .int .i64 0] 24)).heap.size := by simp; omega
  go_enter Try.func61, Try.ntmps61
  go_wp2_with fail
  refine (l02V_any _ _ _ _).mono ?_
  rintro e w1 ⟨rfl, hb1⟩
  have HX := Vbox.new w1 (cc x) (cc y) (cc z) 24
  have HB := (HB.later hb1).alloc (.cells #[.int .i64 (cc x), .int .i64 (cc y), .int .i64 (cc z)] 24)
  have HR := (HR.later hb1).alloc (.cells #[.int .i64 (cc x), .int .i64 (cc y), .int .i64 (cc z)] 24)
  have HW := (bcall HW hb1 hz).alloc (bcall HW hb1 hz).size (.cells #[.int .i64 (cc x), .int .i64 (cc y), .int .i64 (cc z)] 24)
  have hz := HW.size
  have ng : w.heap.size + 2 < w1.heap.size := by have := hb1.size; simp at this; omega
  obtain ⟨c0, c1, c2, _, _, _⟩ := id HB
  clear hb1
  go_wp2_with fail
  refine (l02V_any _ _ _ _).mono ?_
  rintro e w2 ⟨rfl, hb2⟩
  have HX := (HX.later hb2).alloc (.cells #[.int .i64 (cc p), .int .i64 (cc q), .int .i64 (cc r)] 24)
  have HY := Vbox.new w2 (cc p) (cc q) (cc r) 24
  have HR := (HR.later hb2).alloc (.cells #[.int .i64 (cc p), .int .i64 (cc q), .int .i64 (cc r)] 24)
  have HW := (bcall HW hb2 hz).alloc (bcall HW hb2 hz).size (.cells #[.int .i64 (cc p), .int .i64 (cc q), .int .i64 (cc r)] 24)
  have hz := HW.size
  have nh : w1.heap.size < w2.heap.size := by have := hb2.size; simp at this; omega
  clear c0 c1 c2 hb2 HB
  obtain ⟨c0, c1, c2, fc0, fc1, fc2⟩ := id HX
  obtain ⟨d0, d1, d2, fd0, fd1, fd2⟩ := id HY
  obtain ⟨r0, r1, r2, fr0, fr1, fr2⟩ := id HR

  go_wp2_with fail
  have S0 : (w2.alloc (.cells #[.int .i64 (cc p), .int .i64 (cc q), .int .i64 (cc r)] 24)).drew.cell? ⟨w1.heap.size, 0, none⟩ = some (.int .i64 (cc x)) ∧ (w2.alloc (.cells #[.int .i64 (cc p), .int .i64 (cc q), .int .i64 (cc r)] 24)).drew.cell? ⟨w1.heap.size, 1, none⟩ = some (.int .i64 (cc y)) ∧ (w2.alloc (.cells #[.int .i64 (cc p), .int .i64 (cc q), .int .i64 (cc r)] 24)).drew.cell? ⟨w1.heap.size, 2, none⟩ = some (.int .i64 (cc z)) ∧ (w2.alloc (.cells #[.int .i64 (cc p), .int .i64 (cc q), .int .i64 (cc r)] 24)).drew.cell? ⟨w2.heap.size, 0, none⟩ = some (.int .i64 (cc p)) ∧ (w2.alloc (.cells #[.int .i64 (cc p), .int .i64 (cc q), .int .i64 (cc r)] 24)).drew.cell? ⟨w2.heap.size, 1, none⟩ = some (.int .i64 (cc q)) ∧ (w2.alloc (.cells #[.int .i64 (cc p), .int .i64 (cc q), .int .i64 (cc r)] 24)).drew.cell? ⟨w2.heap.size, 2, none⟩ = some (.int .i64 (cc r)) := ⟨c0, c1, c2, d0, d1, d2⟩
  clear c0 c1 c2 d0 d1 d2
  have np1 : w1.heap.size ≠ w.heap.size + 1 + 1 := by omega
  have np2 : w2.heap.size ≠ w.heap.size + 1 + 1 := by omega
  have np3 : w1.heap.size < (w2.alloc (.cells #[.int .i64 (cc p), .int .i64 (cc q), .int .i64 (cc r)] 24)).drew.heap.size := HX.lt
  have np4 : w2.heap.size < (w2.alloc (.cells #[.int .i64 (cc p), .int .i64 (cc q), .int .i64 (cc r)] 24)).drew.heap.size := HY.lt
  clear fc0 fc1 fc2 fd0 fd1 fd2
  go_region_held3 (fun w' => w'.cell? ⟨w1.heap.size, 0, none⟩ = some (.int .i64 (cc x)) ∧ w'.cell? ⟨w1.heap.size, 1, none⟩ = some (.int .i64 (cc y)) ∧ w'.cell? ⟨w1.heap.size, 2, none⟩ = some (.int .i64 (cc z)) ∧ w'.cell? ⟨w2.heap.size, 0, none⟩ = some (.int .i64 (cc p)) ∧ w'.cell? ⟨w2.heap.size, 1, none⟩ = some (.int .i64 (cc q)) ∧ w'.cell? ⟨w2.heap.size, 2, none⟩ = some (.int .i64 (cc r)))
    (first | (with_reducible exact S0) | (with_reducible assumption) | (go_split_ands; with_reducible exact ⟨((bcell hb1).1 _ _ (by assumption)).trans (by assumption), ((bcell hb1).1 _ _ (by assumption)).trans (by assumption), ((bcell hb1).1 _ _ (by assumption)).trans (by assumption), ((bcell hb1).1 _ _ (by assumption)).trans (by assumption), ((bcell hb1).1 _ _ (by assumption)).trans (by assumption), ((bcell hb1).1 _ _ (by assumption)).trans (by assumption)⟩) | (go_split_ands; with_reducible exact ⟨(far3 (by assumption)).trans (by assumption), (far3 (by assumption)).trans (by assumption), (far3 (by assumption)).trans (by assumption), (far3 (by assumption)).trans (by assumption), (far3 (by assumption)).trans (by assumption), (far3 (by assumption)).trans (by assumption)⟩) | (go_split_ands; exact ⟨(far3d (by assumption)).trans (by assumption), (far3d (by assumption)).trans (by assumption), (far3d (by assumption)).trans (by assumption), (far3d (by assumption)).trans (by assumption), (far3d (by assumption)).trans (by assumption), (far3d (by assumption)).trans (by assumption)⟩) | (go_keep; done))
    (first | (go_at_call 72; refine (l01Max_any _ _ _).mono ?_; rintro e w' ⟨rfl, rfl⟩) )
  go_wp2
  exact bodyPost_ret (v := vec (mxP (cc x) (cc p)) (mxP (cc y) (cc q)) (mxP (cc z) (cc r))) (by simp [results, Try.results61, go_sem, r0, r1, r2]) rfl ⟨rfl, bset3 HW.drew (by omega)⟩

end Go.Proofs.Ytjjafbcfmijppaa
