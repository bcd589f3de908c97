/- Contracts of IsValidBox: the program and its model. -/
import Derived.Test.YtjnebohcffeneaaDoorProg
import Derived.Test.YtjnebohcffeneaaDoorInts
import Derived.Test.YtjnebohcffeneaaDoorVbox
import Derived.Test.YtjnebohcffeneaaDoorVec
import Derived.Test.YtjnebohcffeneaaDoorHeld
import Derived.Test.YtjnebohcffeneaaDoorBox
import Derived.WalkKit
import Derived.WalkSpells
import Derived.WalkLawsBesides
import Derived.Lib.Hide
import Derived.Deep.RegionHeld3
import Derived.Deep.QuietTactic
import Derived.BigQuiet
import Derived.Handy
import Derived.Deep.DeepCutAuto
namespace Go.Proofs.YtjnebohcffeneaaDoor
open Go.RowKit

/-- a box is valid -/
def okX (a b c d e f : Int) : Bool := okB a b c && (okB d e f && le3 a b c d e f)
theorem okX_no1 {a b c d e f : Int} (h : okB a b c = false) : false = okX a b c d e f := by unfold okX; rw [h]; rfl
theorem okX_no2 {a b c d e f : Int} (h : okB d e f = false) : false = okX a b c d e f := by unfold okX; rw [h]; cases okB a b c <;> rfl
theorem okX_no3 {a b c d e f : Int} (h : ¬ (a ≤ d ∧ b ≤ e ∧ c ≤ f)) : false = okX a b c d e f := by unfold okX; rw [← le3_no h]; cases okB a b c <;> cases okB d e f <;> rfl
theorem okX_yes {a b c d e f : Int} (h0 : okB a b c = true) (h1 : okB d e f = true) : le3 a b c d e f = okX a b c d e f := by unfold okX; rw [h0, h1]; rfl

set_option maxHeartbeats 2000000 in
theorem isValidBox_any (a b c d e f : Int) (w : World) :
    Calls Tryd.prog 10 #[box a b c d e f] w (BoolOut2 (okX a b c d e f) w) := by
  have HT : Held w (w.alloc (.cells #[.int .i64 a, .int .i64 b, .int .i64 c, .int .i64 d, .int .i64 e, .int .i64 f] 29)) [(w.heap.size, [.int .i64 a, .int .i64 b, .int .i64 c, .int .i64 d, .int .i64 e, .int .i64 f])] := by
    have h := (Held.nil w).new #[.int .i64 a, .int .i64 b, .int .i64 c, .int .i64 d, .int .i64 e, .int .i64 f] 29
    simpa only [World.size_alloc] using h
  have HC : ∀ W, Held w W [(w.heap.size, [.int .i64 a, .int .i64 b, .int .i64 c, .int .i64 d, .int .i64 e, .int .i64 f])] → (W.cell? ⟨w.heap.size, 0, none⟩ = some (.int .i64 a) ∧ W.cell? ⟨w.heap.size, 1, none⟩ = some (.int .i64 b) ∧ W.cell? ⟨w.heap.size, 2, none⟩ = some (.int .i64 c) ∧ W.cell? ⟨w.heap.size, 3, none⟩ = some (.int .i64 d) ∧ W.cell? ⟨w.heap.size, 4, none⟩ = some (.int .i64 e) ∧ W.cell? ⟨w.heap.size, 5, none⟩ = some (.int .i64 f)) := fun W h => ⟨(h.box 0).c 0, (h.box 0).c 1, (h.box 0).c 2, (h.box 0).c 3, (h.box 0).c 4, (h.box 0).c 5⟩
  rcases h0 : okB a b c with _ | _ <;> rcases h1 : okB d e f with _ | _
  · go_enter Tryd.func10, Tryd.ntmps10
    go_wp2_with fail
    first | go_region_with (first | (go_at_call 14; refine (isValidVec_any _ _ _ _).mono ?_; rintro e w1 ⟨rfl, hb1⟩; (first | (have HT := HT.later hb1) | (have HT := HT.drew.later hb1)); (try simp only [h0]); (try simp only [h1]); obtain ⟨c0, c1, c2, c3, c4, c5⟩ := HC _ HT)) | fail
    all_goals
      go_wp2_with fail
      go_ret
      exact ⟨ret_bool (okX_no1 h0), HT.below⟩
  · go_enter Tryd.func10, Tryd.ntmps10
    go_wp2_with fail
    first | go_region_with (first | (go_at_call 14; refine (isValidVec_any _ _ _ _).mono ?_; rintro e w1 ⟨rfl, hb1⟩; (first | (have HT := HT.later hb1) | (have HT := HT.drew.later hb1)); (try simp only [h0]); (try simp only [h1]); obtain ⟨c0, c1, c2, c3, c4, c5⟩ := HC _ HT)) | fail
    all_goals
      go_wp2_with fail
      go_ret
      exact ⟨ret_bool (okX_no1 h0), HT.below⟩
  · go_enter Tryd.func10, Tryd.ntmps10
    go_wp2_with fail
    first | go_region_with (first | (go_at_call 14; refine (isValidVec_any _ _ _ _).mono ?_; rintro e w1 ⟨rfl, hb1⟩; (first | (have HT := HT.later hb1) | (have HT := HT.drew.later hb1)); (try simp only [h0]); (try simp only [h1]); obtain ⟨c0, c1, c2, c3, c4, c5⟩ := HC _ HT)) | fail
    all_goals
      go_wp2_with fail
      go_ret
      exact ⟨ret_bool (okX_no2 h1), HT.below⟩
  · have hfd : ∀ w : World, (Instr.field 42 (box a b c d e f) 0).run Tryd.prog w = .ok (vec a b c) w := fun _ => by kernel_rfl
    go_enter Tryd.func10, Tryd.ntmps10
    go_wp2_with fail
    go_region_held3 (fun w' => w'.cell? ⟨w.heap.size, 0, none⟩ = some (.int .i64 a) ∧ w'.cell? ⟨w.heap.size, 1, none⟩ = some (.int .i64 b) ∧ w'.cell? ⟨w.heap.size, 2, none⟩ = some (.int .i64 c) ∧ w'.cell? ⟨w.heap.size, 3, none⟩ = some (.int .i64 d) ∧ w'.cell? ⟨w.heap.size, 4, none⟩ = some (.int .i64 e) ∧ w'.cell? ⟨w.heap.size, 5, none⟩ = some (.int .i64 f))
      (first | (with_reducible exact HC _ HT) | (with_reducible exact HC _ HT.drew))
      (first | (go_at_call 14; refine (isValidVec_any _ _ _ _).mono ?_; rintro e w1 ⟨rfl, hb1⟩; (first | (have HT := HT.later hb1) | (have HT := HT.drew.later hb1)); (try simp only [h0, h1])) | (go_at_call 15; refine (corners_any _ _ _ _ _ _ _).mono ?_; rintro e w1 ⟨rfl, hb1⟩; (first | (have HT := HT.later hb1) | (have HT := HT.drew.later hb1))) | (go_at_call 16; refine (isBelow_any _ _ _ _ _ _ _).mono ?_; rintro e w1 ⟨rfl, hb1⟩; (first | (have HT := HT.later hb1) | (have HT := HT.drew.later hb1))))
    go_wp2
    go_ret
    exact ⟨ret_bool (okX_yes h0 h1), HT.below⟩

set_option maxHeartbeats 2000000 in
theorem sIsValidBox_any (a b c d e f : Int) (w : World) :
    Calls Tryd.prog 7 #[box a b c d e f] w (BoolOut2 (okX a b c d e f) w) := by
  have HT : Held w (w.alloc (.cells #[.int .i64 a, .int .i64 b, .int .i64 c, .int .i64 d, .int .i64 e, .int .i64 f] 29)) [(w.heap.size, [.int .i64 a, .int .i64 b, .int .i64 c, .int .i64 d, .int .i64 e, .int .i64 f])] := by
    have h := (Held.nil w).new #[.int .i64 a, .int .i64 b, .int .i64 c, .int .i64 d, .int .i64 e, .int .i64 f] 29
    simpa only [World.size_alloc] using h
  rcases h0 : okB a b c with _ | _
  · go_enter Tryd.func7, Tryd.ntmps7
    go_wp2_with fail
    refine (sIsValidVec_any _ _ _ _).mono ?_
    rintro e w1 ⟨rfl, hb1⟩
    rw [h0]
    have HT := HT.later hb1
    clear hb1
    have c0 := (HT.box 0).c 0
    have c1 := (HT.box 0).c 1
    have c2 := (HT.box 0).c 2
    have c3 := (HT.box 0).c 3
    have c4 := (HT.box 0).c 4
    have c5 := (HT.box 0).c 5
    go_wp2_with fail
    go_ret
    exact ⟨ret_bool (okX_no1 h0), HT.below⟩
  rcases h1 : okB d e f with _ | _
  · go_enter Tryd.func7, Tryd.ntmps7
    go_wp2_with fail
    refine (sIsValidVec_any _ _ _ _).mono ?_
    rintro e w1 ⟨rfl, hb1⟩
    rw [h0]
    have HT := HT.later hb1
    clear hb1
    have c0 := (HT.box 0).c 0
    have c1 := (HT.box 0).c 1
    have c2 := (HT.box 0).c 2
    have c3 := (HT.box 0).c 3
    have c4 := (HT.box 0).c 4
    have c5 := (HT.box 0).c 5
    go_wp2_with fail
    refine (sIsValidVec_any _ _ _ _).mono ?_
    rintro e w1 ⟨rfl, hb1⟩
    rw [h1]
    have HT := HT.later hb1
    clear hb1
    have c0 := (HT.box 0).c 0
    have c1 := (HT.box 0).c 1
    have c2 := (HT.box 0).c 2
    have c3 := (HT.box 0).c 3
    have c4 := (HT.box 0).c 4
    have c5 := (HT.box 0).c 5
    go_wp2_with fail
    go_ret
    exact ⟨ret_bool (okX_no2 h1), HT.below⟩
  by_cases k0 : a ≤ d
  · by_cases k1 : b ≤ e
    · by_cases k2 : c ≤ f
      all_goals
        go_enter Tryd.func7, Tryd.ntmps7
        go_wp2_with fail
        refine (sIsValidVec_any _ _ _ _).mono ?_
        rintro e w1 ⟨rfl, hb1⟩
        rw [h0]
        have HT := HT.later hb1
        clear hb1
        have c0 := (HT.box 0).c 0
        have c1 := (HT.box 0).c 1
        have c2 := (HT.box 0).c 2
        have c3 := (HT.box 0).c 3
        have c4 := (HT.box 0).c 4
        have c5 := (HT.box 0).c 5
        go_wp2_with fail
        refine (sIsValidVec_any _ _ _ _).mono ?_
        rintro e w1 ⟨rfl, hb1⟩
        rw [h1]
        have HT := HT.later hb1
        clear hb1
        have c0 := (HT.box 0).c 0
        have c1 := (HT.box 0).c 1
        have c2 := (HT.box 0).c 2
        have c3 := (HT.box 0).c 3
        have c4 := (HT.box 0).c 4
        have c5 := (HT.box 0).c 5
        go_wp2_with fail
        go_ret
        exact ⟨ret_bool (by first | exact okX_no3 (by omega) | (rw [← okX_yes h0 h1]; exact le3_yes ⟨k0, k1, k2⟩) | (rw [← okX_yes h0 h1]; unfold le3; rw [decide_eq_true k0, decide_eq_true k1]; rfl)), HT.below⟩
    · go_enter Tryd.func7, Tryd.ntmps7
      go_wp2_with fail
      refine (sIsValidVec_any _ _ _ _).mono ?_
      rintro e w1 ⟨rfl, hb1⟩
      rw [h0]
      have HT := HT.later hb1
      clear hb1
      have c0 := (HT.box 0).c 0
      have c1 := (HT.box 0).c 1
      have c2 := (HT.box 0).c 2
      have c3 := (HT.box 0).c 3
      have c4 := (HT.box 0).c 4
      have c5 := (HT.box 0).c 5
      go_wp2_with fail
      refine (sIsValidVec_any _ _ _ _).mono ?_
      rintro e w1 ⟨rfl, hb1⟩
      rw [h1]
      have HT := HT.later hb1
      clear hb1
      have c0 := (HT.box 0).c 0
      have c1 := (HT.box 0).c 1
      have c2 := (HT.box 0).c 2
      have c3 := (HT.box 0).c 3
      have c4 := (HT.box 0).c 4
      have c5 := (HT.box 0).c 5
      go_wp2_with fail
      go_ret
      exact ⟨ret_bool (okX_no3 (by omega)), HT.below⟩
  · go_enter Tryd.func7, Tryd.ntmps7
    go_wp2_with fail
    refine (sIsValidVec_any _ _ _ _).mono ?_
    rintro e w1 ⟨rfl, hb1⟩
    rw [h0]
    have HT := HT.later hb1
    clear hb1
    have c0 := (HT.box 0).c 0
    have c1 := (HT.box 0).c 1
    have c2 := (HT.box 0).c 2
    have c3 := (HT.box 0).c 3
    have c4 := (HT.box 0).c 4
    have c5 := (HT.box 0).c 5
    go_wp2_with fail
    refine (sIsValidVec_any _ _ _ _).mono ?_
    rintro e w1 ⟨rfl, hb1⟩
    rw [h1]
    have HT := HT.later hb1
    clear hb1
    have c0 := (HT.box 0).c 0
    have c1 := (HT.box 0).c 1
    have c2 := (HT.box 0).c 2
    have c3 := (HT.box 0).c 3
    have c4 := (HT.box 0).c 4
    have c5 := (HT.box 0).c 5
    go_wp2_with fail
    go_ret
    exact ⟨ret_bool (okX_no3 (by omega)), HT.below⟩
end Go.Proofs.YtjnebohcffeneaaDoor
