/- Contracts of Add: the program and its model. -/
import Derived.Test.YtjflkapdnnecjaaProg
import Derived.Test.YtjflkapdnnecjaaInts
import Derived.Test.YtjflkapdnnecjaaVbox
import Derived.Test.YtjflkapdnnecjaaVec
import Derived.WalkKit
import Derived.WalkSpells
import Derived.WalkLawsBesides
import Derived.Lib.Hide
import Derived.Deep.RegionHeld3
import Derived.Deep.QuietTactic
import Derived.BigQuiet
import Derived.Handy
import Derived.Deep.DeepCutAuto
import Derived.Laws.StructEq
namespace Go.Proofs.Ytjflkapdnnecjaa
open Go.RowKit

set_option maxHeartbeats 2000000 in
theorem add_any (x y z p q r : Int) (w : World) :
    Calls Try.prog 90 #[vec x y z, vec p q r] w (VecOut (cc (cc x + cc p)) (cc (cc y + cc q)) (cc (cc z + cc r)) w) := by
  have b0 := cc_bd x
  have b1 := cc_bd y
  have b2 := cc_bd z
  have b3 := cc_bd p
  have b4 := cc_bd q
  have b5 := cc_bd r
  have HR : Vbox (((w.alloc (.cells #[.int .i64 x, .int .i64 y, .int .i64 z] 24)).alloc (.cells #[.int .i64 p, .int .i64 q, .int .i64 r] 24)).alloc (.cells #[.int .i64 0, .int .i64 0, .int .i64 0] 24)).drew (w.heap.size + 2) 0 0 0 := Vbox.new2 w _ _ 0 0 0 _
  have HW : Below w.heap.size w (((w.alloc (.cells #[.int .i64 x, .int .i64 y, .int .i64 z] 24)).alloc (.cells #[.int .i64 p, .int .i64 q, .int .i64 r] 24)).alloc (.cells #[.int .i64 0, .int .i64 0, .int .i64 0] 24)).drew := by go_grown
  have hz : w.heap.size ≤ (((w.alloc (.cells #[.int .i64 x, .int .i64 y, .int .i64 z] 24)).alloc (.cells #[.int .i64 p, .int .i64 q, .int .i64 r] 24)).alloc (.cells #[.int .i64 0, .int .i64 0, .int .i64 0] 24)).drew.heap.size := by simp; omega
  go_enter Try.func90, Try.ntmps90
  go_wp2_with fail
  go_region_held3 (fun w' => w.heap.size + 3 ≤ w'.heap.size ∧ w'.cell? ⟨w.heap.size, 0, none⟩ = some (.int .i64 (x)) ∧ w'.cell? ⟨w.heap.size, 1, none⟩ = some (.int .i64 (y)) ∧ w'.cell? ⟨w.heap.size, 2, none⟩ = some (.int .i64 (z)) ∧ w'.cell? ⟨w.heap.size + 1, 0, none⟩ = some (.int .i64 (p)) ∧ w'.cell? ⟨w.heap.size + 1, 1, none⟩ = some (.int .i64 (q)) ∧ w'.cell? ⟨w.heap.size + 1, 2, none⟩ = some (.int .i64 (r)))
    (first | (go_split_ands; have hsz := hb1.size; with_reducible exact ⟨by omega, ((bcell hb1).1 _ _ (by omega)).trans (by assumption), ((bcell hb1).1 _ _ (by omega)).trans (by assumption), ((bcell hb1).1 _ _ (by omega)).trans (by assumption), ((bcell hb1).1 _ _ (by omega)).trans (by assumption), ((bcell hb1).1 _ _ (by omega)).trans (by assumption), ((bcell hb1).1 _ _ (by omega)).trans (by assumption)⟩) | (go_split_ands; with_reducible exact ⟨size3 (by assumption), (far3 (by omega)).trans (by assumption), (far3 (by omega)).trans (by assumption), (far3 (by omega)).trans (by assumption), (far3 (by omega)).trans (by assumption), (far3 (by omega)).trans (by assumption), (far3 (by omega)).trans (by assumption)⟩) | (go_keep; done))
    (first | (go_at_call 57; refine (clamped_any _ _ _ _).mono ?_; rintro e w1 ⟨rfl, hb1⟩; have HW : Below w.heap.size w w1 := bcall HW hb1 hz; have hz : w.heap.size ≤ w1.heap.size := HW.size; have HR := HR.later hb1; obtain ⟨hr0, hr1, hr2, gr0, gr1, gr2⟩ := id HR) | (go_at_call 48; refine (plus_any _ _ _ _ _ _ _ (by omega) (by omega) (by omega) (by omega) (by omega) (by omega)).mono ?_; rintro e w1 ⟨rfl, hb1⟩; have HW : Below w.heap.size w w1 := bcall HW hb1 hz; have hz : w.heap.size ≤ w1.heap.size := HW.size; have HR := HR.later hb1; obtain ⟨hr0, hr1, hr2, gr0, gr1, gr2⟩ := id HR) )
  go_wp2
  exact bodyPost_ret (v := vec (cc (cc x + cc p)) (cc (cc y + cc q)) (cc (cc z + cc r))) (by simp [results, Try.results90, go_sem, hr0, hr1, hr2]) rfl ⟨rfl, bset3 HW (by omega)⟩

set_option maxHeartbeats 2000000 in
theorem sAdd_any (x y z p q r : Int) (w : World) :
    Calls Try.prog 87 #[vec x y z, vec p q r] w (VecOut (cc (cc x + cc p)) (cc (cc y + cc q)) (cc (cc z + cc r)) w) := by
  have b0 := cc_bd x
  have b1 := cc_bd y
  have b2 := cc_bd z
  have b3 := cc_bd p
  have b4 := cc_bd q
  have b5 := cc_bd r
  have HB : Vbox (((w.alloc (.cells #[.int .i64 x, .int .i64 y, .int .i64 z] 24)).alloc (.cells #[.int .i64 p, .int .i64 q, .int .i64 r] 24)).alloc (.cells #[.int .i64 0, .int .i64 0, .int .i64 0] 24)) (w.heap.size + 1) p q r := (Vbox.new1 w _ p q r _).alloc _
  have HR : Vbox (((w.alloc (.cells #[.int .i64 x, .int .i64 y, .int .i64 z] 24)).alloc (.cells #[.int .i64 p, .int .i64 q, .int .i64 r] 24)).alloc (.cells #[.int .i64 0, .int .i64 0, .int .i64 0] 24)) (w.heap.size + 2) 0 0 0 := Vbox.new2 w _ _ 0 0 0 _
  have HW : Below w.heap.size w (((w.alloc (.cells #[.int .i64 x, .int .i64 y, .int .i64 z] 24)).alloc (.cells #[.int .i64 p, .int .i64 q, .int .i64 r] 24)).alloc (.cells #[.int .i64 0, .int .i64 0, .int .i64 0] 24)) := by go_grown
  have hz : w.heap.size ≤ (((w.alloc (.cells #[.int .i64 x, .int .i64 y, .int .i64 z] 24)).alloc (.cells #[.int .i64 p, .int .i64 q, .int .i64 r] 24)).alloc (.cells #[.int .i64 0, .int .i64 0, .int .i64 0] 24)).heap.size := by simp; omega
  go_enter Try.func87, Try.ntmps87
  go_wp2_with fail
  refine (l02V_any _ _ _ _).mono ?_
  rintro e w1 ⟨rfl, hb1⟩
  have HX := Vbox.new w1 (cc x) (cc y) (cc z) 24
  have HB := (HB.later hb1).alloc (.cells #[.int .i64 (cc x), .int .i64 (cc y), .int .i64 (cc z)] 24)
  have HR := (HR.later hb1).alloc (.cells #[.int .i64 (cc x), .int .i64 (cc y), .int .i64 (cc z)] 24)
  have HW := (bcall HW hb1 hz).alloc (bcall HW hb1 hz).size (.cells #[.int .i64 (cc x), .int .i64 (cc y), .int .i64 (cc z)] 24)
  have hz := HW.size
  have ng : w.heap.size + 2 < w1.heap.size := by have := hb1.size; simp at this; omega
  obtain ⟨c0, c1, c2, _, _, _⟩ := id HB
  clear hb1
  go_wp2_with fail
  refine (l02V_any _ _ _ _).mono ?_
  rintro e w2 ⟨rfl, hb2⟩
  have HX := (HX.later hb2).alloc (.cells #[.int .i64 (cc p), .int .i64 (cc q), .int .i64 (cc r)] 24)
  have HY := Vbox.new w2 (cc p) (cc q) (cc r) 24
  have HR := (HR.later hb2).alloc (.cells #[.int .i64 (cc p), .int .i64 (cc q), .int .i64 (cc r)] 24)
  have HW := (bcall HW hb2 hz).alloc (bcall HW hb2 hz).size (.cells #[.int .i64 (cc p), .int .i64 (cc q), .int .i64 (cc r)] 24)
  have hz := HW.size
  have nh : w1.heap.size < w2.heap.size := by have := hb2.size; simp at this; omega
  clear c0 c1 c2 hb2 HB
  obtain ⟨c0, c1, c2, fc0, fc1, fc2⟩ := id HX
  obtain ⟨d0, d1, d2, fd0, fd1, fd2⟩ := id HY
  obtain ⟨r0, r1, r2, fr0, fr1, fr2⟩ := id HR

  go_wp2_with fail
  refine (l02V_any _ _ _ _).mono ?_
  rintro e w3 ⟨rfl, hb3⟩
  have HR := HR.later hb3
  have HW := bcall HW hb3 hz
  clear c0 c1 c2 d0 d1 d2 r0 r1 r2 fr0 fr1 fr2 fc0 fc1 fc2 fd0 fd1 fd2 hb3
  obtain ⟨r0, r1, r2, fr0, fr1, fr2⟩ := id HR
  go_wp2_with fail
  exact bodyPost_ret (v := vec (cc (cc x + cc p)) (cc (cc y + cc q)) (cc (cc z + cc r))) (by simp [results, Try.results87, go_sem, r0, r1, r2]) rfl ⟨rfl, bset3 HW (by omega)⟩

end Go.Proofs.Ytjflkapdnnecjaa
