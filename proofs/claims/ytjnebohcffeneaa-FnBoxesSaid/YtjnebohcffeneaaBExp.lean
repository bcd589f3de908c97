/- Contracts of ExpandBox: the program and its model. -/
import Derived.Test.YtjnebohcffeneaaProg
import Derived.Test.YtjnebohcffeneaaInts
import Derived.Test.YtjnebohcffeneaaVbox
import Derived.Test.YtjnebohcffeneaaVec
import Derived.Test.YtjnebohcffeneaaHeld
import Derived.Test.YtjnebohcffeneaaBox
import Derived.Test.YtjnebohcffeneaaVAdd
import Derived.Test.YtjnebohcffeneaaVSubVec
import Derived.WalkKit
import Derived.WalkSpells
import Derived.WalkLawsBesides
import Derived.Lib.Hide
import Derived.Deep.RegionHeld3
import Derived.Deep.QuietTactic
import Derived.BigQuiet
import Derived.Handy
import Derived.Deep.DeepCutAuto
namespace Go.Proofs.Ytjnebohcffeneaa
open Go.RowKit

set_option maxHeartbeats 2000000 in
theorem expandBox_in (a b c d e f k : Int) (w : World) (h0 : 0 ≤ k) (h1 : k ≤ 1000000) :
    Calls Try.prog 15 #[box a b c d e f, .int .i64 k] w (BoxOut (cc (cc a - cc k)) (cc (cc b - cc k)) (cc (cc c - cc k)) (cc (cc d + cc k)) (cc (cc e + cc k)) (cc (cc f + cc k)) w) := by
  have HT : Held w (((w.alloc (.cells #[.int .i64 a, .int .i64 b, .int .i64 c, .int .i64 d, .int .i64 e, .int .i64 f] 26)).alloc (.cells #[.int .i64 0, .int .i64 0, .int .i64 0, .int .i64 0, .int .i64 0, .int .i64 0] 26)).alloc (.cells #[.int .i64 k, .int .i64 k, .int .i64 k] 24)) [(w.heap.size + 2, [.int .i64 k, .int .i64 k, .int .i64 k]), (w.heap.size + 1, [.int .i64 0, .int .i64 0, .int .i64 0, .int .i64 0, .int .i64 0, .int .i64 0]), (w.heap.size, [.int .i64 a, .int .i64 b, .int .i64 c, .int .i64 d, .int .i64 e, .int .i64 f])] := by
    have h := (((Held.nil w).new #[.int .i64 a, .int .i64 b, .int .i64 c, .int .i64 d, .int .i64 e, .int .i64 f] 26).new #[.int .i64 0, .int .i64 0, .int .i64 0, .int .i64 0, .int .i64 0, .int .i64 0] 26).new #[.int .i64 k, .int .i64 k, .int .i64 k] 24
    simpa only [World.size_alloc] using h
  have HT := HT.pick (cs := [(w.heap.size + 1, [.int .i64 0, .int .i64 0, .int .i64 0, .int .i64 0, .int .i64 0, .int .i64 0]), (w.heap.size + 2, [.int .i64 k, .int .i64 k, .int .i64 k]), (w.heap.size, [.int .i64 a, .int .i64 b, .int .i64 c, .int .i64 d, .int .i64 e, .int .i64 f])]) (by simp)
  have HC : ∀ W, Held w W [(w.heap.size + 2, [.int .i64 k, .int .i64 k, .int .i64 k]), (w.heap.size, [.int .i64 a, .int .i64 b, .int .i64 c, .int .i64 d, .int .i64 e, .int .i64 f])] → (W.cell? ⟨w.heap.size, 0, none⟩ = some (.int .i64 a) ∧ W.cell? ⟨w.heap.size, 1, none⟩ = some (.int .i64 b) ∧ W.cell? ⟨w.heap.size, 2, none⟩ = some (.int .i64 c) ∧ W.cell? ⟨w.heap.size, 3, none⟩ = some (.int .i64 d) ∧ W.cell? ⟨w.heap.size, 4, none⟩ = some (.int .i64 e) ∧ W.cell? ⟨w.heap.size, 5, none⟩ = some (.int .i64 f) ∧ W.cell? ⟨w.heap.size + 2, 0, none⟩ = some (.int .i64 k) ∧ W.cell? ⟨w.heap.size + 2, 1, none⟩ = some (.int .i64 k) ∧ W.cell? ⟨w.heap.size + 2, 2, none⟩ = some (.int .i64 k)) := fun W h => ⟨(h.box 1).c 0, (h.box 1).c 1, (h.box 1).c 2, (h.box 1).c 3, (h.box 1).c 4, (h.box 1).c 5, (h.box 0).c 0, (h.box 0).c 1, (h.box 0).c 2⟩
  go_enter Try.func15, Try.ntmps15
  go_wp2_with fail
  go_region_held3 (fun w' => w'.cell? ⟨w.heap.size, 0, none⟩ = some (.int .i64 a) ∧ w'.cell? ⟨w.heap.size, 1, none⟩ = some (.int .i64 b) ∧ w'.cell? ⟨w.heap.size, 2, none⟩ = some (.int .i64 c) ∧ w'.cell? ⟨w.heap.size, 3, none⟩ = some (.int .i64 d) ∧ w'.cell? ⟨w.heap.size, 4, none⟩ = some (.int .i64 e) ∧ w'.cell? ⟨w.heap.size, 5, none⟩ = some (.int .i64 f) ∧ w'.cell? ⟨w.heap.size + 2, 0, none⟩ = some (.int .i64 k) ∧ w'.cell? ⟨w.heap.size + 2, 1, none⟩ = some (.int .i64 k) ∧ w'.cell? ⟨w.heap.size + 2, 2, none⟩ = some (.int .i64 k))
    (first | (with_reducible exact HC _ HT.tail) | (with_reducible exact HC _ HT.drew.tail) | (with_reducible exact HC _ (HT.tail.far6 (by omega) (by simp <;> omega) _ _ _ _ _ _)))
    (first | (go_at_call 38; refine (subVec_any _ _ _ _ _ _ _).mono ?_; rintro e w1 ⟨rfl, hb1⟩; (first | (have HT := HT.later hb1) | (have HT := HT.drew.later hb1)); have r0 := (HT.box 0).c 0; have g0 := (HT.box 0).f 0; have r1 := (HT.box 0).c 1; have g1 := (HT.box 0).f 1; have r2 := (HT.box 0).c 2; have g2 := (HT.box 0).f 2; have r3 := (HT.box 0).c 3; have g3 := (HT.box 0).f 3; have r4 := (HT.box 0).c 4; have g4 := (HT.box 0).f 4; have r5 := (HT.box 0).c 5; have g5 := (HT.box 0).f 5; have HW := HT.below) | (go_at_call 16; refine (add_any _ _ _ _ _ _ _).mono ?_; rintro e w1 ⟨rfl, hb1⟩; (first | (have HT := HT.later hb1) | (have HT := HT.drew.later hb1)); have r0 := (HT.box 0).c 0; have g0 := (HT.box 0).f 0; have r1 := (HT.box 0).c 1; have g1 := (HT.box 0).f 1; have r2 := (HT.box 0).c 2; have g2 := (HT.box 0).f 2; have r3 := (HT.box 0).c 3; have g3 := (HT.box 0).f 3; have r4 := (HT.box 0).c 4; have g4 := (HT.box 0).f 4; have r5 := (HT.box 0).c 5; have g5 := (HT.box 0).f 5; have HW := HT.below))
  go_wp2
  exact bodyPost_ret (v := box (cc (cc a - cc k)) (cc (cc b - cc k)) (cc (cc c - cc k)) (cc (cc d + cc k)) (cc (cc e + cc k)) (cc (cc f + cc k))) (by simp [results, Try.results15, go_sem, r0, r1, r2, r3, r4, r5]) rfl ⟨rfl, bset6 HW (by omega)⟩

set_option maxHeartbeats 2000000 in
theorem expandBox_out (a b c d e f k : Int) (w : World) (h : ¬ (0 ≤ k ∧ k ≤ 1000000)) :
    Calls Try.prog 15 #[box a b c d e f, .int .i64 k] w (BoxOut a b c d e f w) := by
  by_cases h0 : k < 0
  · clear h
    go_enter Try.func15, Try.ntmps15
    go_wp2_with fail
    exact bodyPost_ret (v := box a b c d e f) (by simp [results, Try.results15, go_sem]) rfl ⟨rfl, by go_grown⟩
  · have h1 : 1000000 < k := by omega
    have h2 : 0 ≤ k := by omega
    clear h h0
    go_enter Try.func15, Try.ntmps15
    go_wp2_with fail
    exact bodyPost_ret (v := box a b c d e f) (by simp [results, Try.results15, go_sem]) rfl ⟨rfl, by go_grown⟩

set_option maxHeartbeats 2000000 in
theorem sExpandBox_in (a b c d e f k : Int) (w : World) (h0 : 0 ≤ k) (h1 : k ≤ 1000000) :
    Calls Try.prog 28 #[box a b c d e f, .int .i64 k] w (BoxOut (cc (cc a - cc k)) (cc (cc b - cc k)) (cc (cc c - cc k)) (cc (cc d + cc k)) (cc (cc e + cc k)) (cc (cc f + cc k)) w) := by
  have HT : Held w (((w.alloc (.cells #[.int .i64 a, .int .i64 b, .int .i64 c, .int .i64 d, .int .i64 e, .int .i64 f] 26)).alloc (.cells #[.int .i64 0, .int .i64 0, .int .i64 0, .int .i64 0, .int .i64 0, .int .i64 0] 26)).alloc (.cells #[.int .i64 k, .int .i64 k, .int .i64 k] 24)) [(w.heap.size + 2, [.int .i64 k, .int .i64 k, .int .i64 k]), (w.heap.size + 1, [.int .i64 0, .int .i64 0, .int .i64 0, .int .i64 0, .int .i64 0, .int .i64 0]), (w.heap.size, [.int .i64 a, .int .i64 b, .int .i64 c, .int .i64 d, .int .i64 e, .int .i64 f])] := by
    have h := (((Held.nil w).new #[.int .i64 a, .int .i64 b, .int .i64 c, .int .i64 d, .int .i64 e, .int .i64 f] 26).new #[.int .i64 0, .int .i64 0, .int .i64 0, .int .i64 0, .int .i64 0, .int .i64 0] 26).new #[.int .i64 k, .int .i64 k, .int .i64 k] 24
    simpa only [World.size_alloc] using h
  have HT := HT.pick (cs := [(w.heap.size + 1, [.int .i64 0, .int .i64 0, .int .i64 0, .int .i64 0, .int .i64 0, .int .i64 0]), (w.heap.size + 2, [.int .i64 k, .int .i64 k, .int .i64 k]), (w.heap.size, [.int .i64 a, .int .i64 b, .int .i64 c, .int .i64 d, .int .i64 e, .int .i64 f])]) (by simp)
  have HC : ∀ W, Held w W [(w.heap.size + 2, [.int .i64 k, .int .i64 k, .int .i64 k]), (w.heap.size, [.int .i64 a, .int .i64 b, .int .i64 c, .int .i64 d, .int .i64 e, .int .i64 f])] → (W.cell? ⟨w.heap.size, 0, none⟩ = some (.int .i64 a) ∧ W.cell? ⟨w.heap.size, 1, none⟩ = some (.int .i64 b) ∧ W.cell? ⟨w.heap.size, 2, none⟩ = some (.int .i64 c) ∧ W.cell? ⟨w.heap.size, 3, none⟩ = some (.int .i64 d) ∧ W.cell? ⟨w.heap.size, 4, none⟩ = some (.int .i64 e) ∧ W.cell? ⟨w.heap.size, 5, none⟩ = some (.int .i64 f) ∧ W.cell? ⟨w.heap.size + 2, 0, none⟩ = some (.int .i64 k) ∧ W.cell? ⟨w.heap.size + 2, 1, none⟩ = some (.int .i64 k) ∧ W.cell? ⟨w.heap.size + 2, 2, none⟩ = some (.int .i64 k)) := fun W h => ⟨(h.box 1).c 0, (h.box 1).c 1, (h.box 1).c 2, (h.box 1).c 3, (h.box 1).c 4, (h.box 1).c 5, (h.box 0).c 0, (h.box 0).c 1, (h.box 0).c 2⟩
  go_enter Try.func28, Try.ntmps28
  go_wp2_with fail
  refine (inV_yes _ _ _ _ (by omega) (by omega)).mono ?_
  rintro e w' ⟨rfl, rfl⟩
  go_wp2_with fail
  go_region_held3 (fun w' => w'.cell? ⟨w.heap.size, 0, none⟩ = some (.int .i64 a) ∧ w'.cell? ⟨w.heap.size, 1, none⟩ = some (.int .i64 b) ∧ w'.cell? ⟨w.heap.size, 2, none⟩ = some (.int .i64 c) ∧ w'.cell? ⟨w.heap.size, 3, none⟩ = some (.int .i64 d) ∧ w'.cell? ⟨w.heap.size, 4, none⟩ = some (.int .i64 e) ∧ w'.cell? ⟨w.heap.size, 5, none⟩ = some (.int .i64 f) ∧ w'.cell? ⟨w.heap.size + 2, 0, none⟩ = some (.int .i64 k) ∧ w'.cell? ⟨w.heap.size + 2, 1, none⟩ = some (.int .i64 k) ∧ w'.cell? ⟨w.heap.size + 2, 2, none⟩ = some (.int .i64 k))
    (first | (with_reducible exact HC _ HT.tail) | (with_reducible exact HC _ HT.drew.tail) | (with_reducible exact HC _ (HT.tail.far6 (by omega) (by simp <;> omega) _ _ _ _ _ _)))
    (first | (go_at_call 48; refine (sSubVec_any _ _ _ _ _ _ _).mono ?_; rintro e w1 ⟨rfl, hb1⟩; (first | (have HT := HT.later hb1) | (have HT := HT.drew.later hb1)); have r0 := (HT.box 0).c 0; have g0 := (HT.box 0).f 0; have r1 := (HT.box 0).c 1; have g1 := (HT.box 0).f 1; have r2 := (HT.box 0).c 2; have g2 := (HT.box 0).f 2; have r3 := (HT.box 0).c 3; have g3 := (HT.box 0).f 3; have r4 := (HT.box 0).c 4; have g4 := (HT.box 0).f 4; have r5 := (HT.box 0).c 5; have g5 := (HT.box 0).f 5; have HW := HT.below) | (go_at_call 49; refine (sAdd_any _ _ _ _ _ _ _).mono ?_; rintro e w1 ⟨rfl, hb1⟩; (first | (have HT := HT.later hb1) | (have HT := HT.drew.later hb1)); have r0 := (HT.box 0).c 0; have g0 := (HT.box 0).f 0; have r1 := (HT.box 0).c 1; have g1 := (HT.box 0).f 1; have r2 := (HT.box 0).c 2; have g2 := (HT.box 0).f 2; have r3 := (HT.box 0).c 3; have g3 := (HT.box 0).f 3; have r4 := (HT.box 0).c 4; have g4 := (HT.box 0).f 4; have r5 := (HT.box 0).c 5; have g5 := (HT.box 0).f 5; have HW := HT.below))
  go_wp2
  exact bodyPost_ret (v := box (cc (cc a - cc k)) (cc (cc b - cc k)) (cc (cc c - cc k)) (cc (cc d + cc k)) (cc (cc e + cc k)) (cc (cc f + cc k))) (by simp [results, Try.results28, go_sem, r0, r1, r2, r3, r4, r5]) rfl ⟨rfl, bset6 HW (by omega)⟩

set_option maxHeartbeats 2000000 in
theorem sExpandBox_out (a b c d e f k : Int) (w : World) (h : ¬ (0 ≤ k ∧ k ≤ 1000000)) :
    Calls Try.prog 28 #[box a b c d e f, .int .i64 k] w (BoxOut a b c d e f w) := by
  go_enter Try.func28, Try.ntmps28
  go_wp2_with fail
  refine (inV_no _ _ _ _ (by omega)).mono ?_
  rintro e w' ⟨rfl, rfl⟩
  go_wp2_with fail
  exact bodyPost_ret (v := box a b c d e f) (by simp [results, Try.results28, go_sem]) rfl ⟨rfl, by go_grown⟩
end Go.Proofs.Ytjnebohcffeneaa
