/- Contracts of chapter 9: words for cameras, IsValidCamera of the program and of its model, and the laws own helpers. -/
import Derived.Test.YtolinlcihddkoabProg
import Derived.Test.YtolinlcihddkoabInts
import Derived.Test.YtolinlcihddkoabVbox
import Derived.Test.YtolinlcihddkoabVec
import Derived.Test.YtolinlcihddkoabHeld
import Derived.WalkKit
import Derived.WalkSpells
import Derived.WalkLawsBesides
import Derived.Lib.Hide
import Derived.Deep.RegionHeld3
import Derived.Deep.QuietTactic
import Derived.BigQuiet
import Derived.Handy
import Derived.Deep.DeepCutAuto
namespace Go.Proofs.Ytolinlcihddkoab
open Go.RowKit

abbrev cam (a b c d : Int) (e : Bool) (f g : Int) : Value := .agg #[.int .i64 a, .int .i64 b, .int .i64 c, .int .i64 d, .bool e, .int .i64 f, .int .i64 g]
def CamOut (a b c d : Int) (e : Bool) (f g : Int) (w : World) (x : Ending) (w' : World) : Prop := x = .returned (cam a b c d e f g) ∧ Below w.heap.size w w'
def BoolIs (b : Bool) (w : World) (x : Ending) (w' : World) : Prop := x = .returned (.bool b) ∧ Below w.heap.size w w'
/-- n lies from lo to hi -/
def inC (lo hi n : Int) : Bool := decide (lo ≤ n) && decide (n ≤ hi)
theorem inC_iff (lo hi n : Int) : inC lo hi n = true ↔ lo ≤ n ∧ n ≤ hi := by simp [inC]
theorem inC_not {lo hi n : Int} (h : inC lo hi n = false) : ¬ (lo ≤ n ∧ n ≤ hi) := fun k => by rw [(inC_iff ..).2 k] at h; cases h
/-- a camera is valid -/
def okC (a b c d f g : Int) : Bool := (inC 1 12 a && inC 1 12 b) && ((inC 1 65536 c && inC 1 1000000 d) && (inC 0 64 f && inC 0 1000000 g))
theorem okC_iff (a b c d f g : Int) : okC a b c d f g = true ↔ ((1 ≤ a ∧ a ≤ 12) ∧ (1 ≤ b ∧ b ≤ 12)) ∧ ((1 ≤ c ∧ c ≤ 65536) ∧ (1 ≤ d ∧ d ≤ 1000000)) ∧ (0 ≤ f ∧ f ≤ 64) ∧ (0 ≤ g ∧ g ≤ 1000000) := by
  simp only [okC, Bool.and_eq_true, inC_iff]
theorem ret_b {a b : Bool} (h : a = b) : Ending.returned (.bool a) = .returned (.bool b) := by rw [h]

set_option maxHeartbeats 2000000 in
theorem isWithin_any (n lo hi : Int) (w : World) :
    Calls Try.prog 19 #[.int .i64 n, .int .i64 lo, .int .i64 hi] w (fun x w' => x = .returned (.bool (inC lo hi n)) ∧ w = w') := by
  by_cases h0 : lo ≤ n
  · by_cases h1 : n ≤ hi
    all_goals
      go_enter Try.func19, Try.ntmps19
      go_wp2_with fail
      go_ret
      exact ⟨ret_b (by simp [inC, h0, h1]), rfl⟩
  · have h1 : decide (lo ≤ n) = false := by simpa using h0
    go_enter Try.func19, Try.ntmps19
    go_wp2_with fail
    go_ret
    exact ⟨ret_b (by unfold inC; rw [h1]; rfl), rfl⟩


set_option maxHeartbeats 8000000 in
theorem isValidCamera_any (a b c d : Int) (e : Bool) (f g : Int) (w : World) :
    Calls Try.prog 27 #[cam a b c d e f g] w (BoolIs (okC a b c d f g) w) := by
  rcases h0 : inC 1 12 a with _ | _
  · skip
    rcases h2 : inC 1 65536 c with _ | _
    · skip
      rcases h4 : inC 0 64 f with _ | _
      · skip
        go_enter Try.func27, Try.ntmps27
        go_wp2_with (go_at_call 19; refine (isWithin_any _ _ _ _).mono ?_; rintro x w' ⟨rfl, rfl⟩; (try simp only [h0, h2, h4]))
        go_ret
        exact ⟨ret_b (by unfold okC; rw [h0, h2, h4] <;> rfl), by go_grown⟩
      · rcases h5 : inC 0 1000000 g with _ | _
        · skip
          go_enter Try.func27, Try.ntmps27
          go_wp2_with (go_at_call 19; refine (isWithin_any _ _ _ _).mono ?_; rintro x w' ⟨rfl, rfl⟩; (try simp only [h0, h2, h4, h5]))
          go_ret
          exact ⟨ret_b (by unfold okC; rw [h0, h2, h4, h5] <;> rfl), by go_grown⟩
        · skip
          go_enter Try.func27, Try.ntmps27
          go_wp2_with (go_at_call 19; refine (isWithin_any _ _ _ _).mono ?_; rintro x w' ⟨rfl, rfl⟩; (try simp only [h0, h2, h4, h5]))
          go_ret
          exact ⟨ret_b (by unfold okC; rw [h0, h2, h4, h5] <;> rfl), by go_grown⟩
    · rcases h3 : inC 1 1000000 d with _ | _
      · skip
        rcases h4 : inC 0 64 f with _ | _
        · skip
          go_enter Try.func27, Try.ntmps27
          go_wp2_with (go_at_call 19; refine (isWithin_any _ _ _ _).mono ?_; rintro x w' ⟨rfl, rfl⟩; (try simp only [h0, h2, h3, h4]))
          go_ret
          exact ⟨ret_b (by unfold okC; rw [h0, h2, h3, h4] <;> rfl), by go_grown⟩
        · rcases h5 : inC 0 1000000 g with _ | _
          · skip
            go_enter Try.func27, Try.ntmps27
            go_wp2_with (go_at_call 19; refine (isWithin_any _ _ _ _).mono ?_; rintro x w' ⟨rfl, rfl⟩; (try simp only [h0, h2, h3, h4, h5]))
            go_ret
            exact ⟨ret_b (by unfold okC; rw [h0, h2, h3, h4, h5] <;> rfl), by go_grown⟩
          · skip
            go_enter Try.func27, Try.ntmps27
            go_wp2_with (go_at_call 19; refine (isWithin_any _ _ _ _).mono ?_; rintro x w' ⟨rfl, rfl⟩; (try simp only [h0, h2, h3, h4, h5]))
            go_ret
            exact ⟨ret_b (by unfold okC; rw [h0, h2, h3, h4, h5] <;> rfl), by go_grown⟩
      · skip
        rcases h4 : inC 0 64 f with _ | _
        · skip
          go_enter Try.func27, Try.ntmps27
          go_wp2_with (go_at_call 19; refine (isWithin_any _ _ _ _).mono ?_; rintro x w' ⟨rfl, rfl⟩; (try simp only [h0, h2, h3, h4]))
          go_ret
          exact ⟨ret_b (by unfold okC; rw [h0, h2, h3, h4] <;> rfl), by go_grown⟩
        · rcases h5 : inC 0 1000000 g with _ | _
          · skip
            go_enter Try.func27, Try.ntmps27
            go_wp2_with (go_at_call 19; refine (isWithin_any _ _ _ _).mono ?_; rintro x w' ⟨rfl, rfl⟩; (try simp only [h0, h2, h3, h4, h5]))
            go_ret
            exact ⟨ret_b (by unfold okC; rw [h0, h2, h3, h4, h5] <;> rfl), by go_grown⟩
          · skip
            go_enter Try.func27, Try.ntmps27
            go_wp2_with (go_at_call 19; refine (isWithin_any _ _ _ _).mono ?_; rintro x w' ⟨rfl, rfl⟩; (try simp only [h0, h2, h3, h4, h5]))
            go_ret
            exact ⟨ret_b (by unfold okC; rw [h0, h2, h3, h4, h5] <;> rfl), by go_grown⟩
  · rcases h1 : inC 1 12 b with _ | _
    · skip
      rcases h2 : inC 1 65536 c with _ | _
      · skip
        rcases h4 : inC 0 64 f with _ | _
        · skip
          go_enter Try.func27, Try.ntmps27
          go_wp2_with (go_at_call 19; refine (isWithin_any _ _ _ _).mono ?_; rintro x w' ⟨rfl, rfl⟩; (try simp only [h0, h1, h2, h4]))
          go_ret
          exact ⟨ret_b (by unfold okC; rw [h0, h1, h2, h4] <;> rfl), by go_grown⟩
        · rcases h5 : inC 0 1000000 g with _ | _
          · skip
            go_enter Try.func27, Try.ntmps27
            go_wp2_with (go_at_call 19; refine (isWithin_any _ _ _ _).mono ?_; rintro x w' ⟨rfl, rfl⟩; (try simp only [h0, h1, h2, h4, h5]))
            go_ret
            exact ⟨ret_b (by unfold okC; rw [h0, h1, h2, h4, h5] <;> rfl), by go_grown⟩
          · skip
            go_enter Try.func27, Try.ntmps27
            go_wp2_with (go_at_call 19; refine (isWithin_any _ _ _ _).mono ?_; rintro x w' ⟨rfl, rfl⟩; (try simp only [h0, h1, h2, h4, h5]))
            go_ret
            exact ⟨ret_b (by unfold okC; rw [h0, h1, h2, h4, h5] <;> rfl), by go_grown⟩
      · rcases h3 : inC 1 1000000 d with _ | _
        · skip
          rcases h4 : inC 0 64 f with _ | _
          · skip
            go_enter Try.func27, Try.ntmps27
            go_wp2_with (go_at_call 19; refine (isWithin_any _ _ _ _).mono ?_; rintro x w' ⟨rfl, rfl⟩; (try simp only [h0, h1, h2, h3, h4]))
            go_ret
            exact ⟨ret_b (by unfold okC; rw [h0, h1, h2, h3, h4] <;> rfl), by go_grown⟩
          · rcases h5 : inC 0 1000000 g with _ | _
            · skip
              go_enter Try.func27, Try.ntmps27
              go_wp2_with (go_at_call 19; refine (isWithin_any _ _ _ _).mono ?_; rintro x w' ⟨rfl, rfl⟩; (try simp only [h0, h1, h2, h3, h4, h5]))
              go_ret
              exact ⟨ret_b (by unfold okC; rw [h0, h1, h2, h3, h4, h5] <;> rfl), by go_grown⟩
            · skip
              go_enter Try.func27, Try.ntmps27
              go_wp2_with (go_at_call 19; refine (isWithin_any _ _ _ _).mono ?_; rintro x w' ⟨rfl, rfl⟩; (try simp only [h0, h1, h2, h3, h4, h5]))
              go_ret
              exact ⟨ret_b (by unfold okC; rw [h0, h1, h2, h3, h4, h5] <;> rfl), by go_grown⟩
        · skip
          rcases h4 : inC 0 64 f with _ | _
          · skip
            go_enter Try.func27, Try.ntmps27
            go_wp2_with (go_at_call 19; refine (isWithin_any _ _ _ _).mono ?_; rintro x w' ⟨rfl, rfl⟩; (try simp only [h0, h1, h2, h3, h4]))
            go_ret
            exact ⟨ret_b (by unfold okC; rw [h0, h1, h2, h3, h4] <;> rfl), by go_grown⟩
          · rcases h5 : inC 0 1000000 g with _ | _
            · skip
              go_enter Try.func27, Try.ntmps27
              go_wp2_with (go_at_call 19; refine (isWithin_any _ _ _ _).mono ?_; rintro x w' ⟨rfl, rfl⟩; (try simp only [h0, h1, h2, h3, h4, h5]))
              go_ret
              exact ⟨ret_b (by unfold okC; rw [h0, h1, h2, h3, h4, h5] <;> rfl), by go_grown⟩
            · skip
              go_enter Try.func27, Try.ntmps27
              go_wp2_with (go_at_call 19; refine (isWithin_any _ _ _ _).mono ?_; rintro x w' ⟨rfl, rfl⟩; (try simp only [h0, h1, h2, h3, h4, h5]))
              go_ret
              exact ⟨ret_b (by unfold okC; rw [h0, h1, h2, h3, h4, h5] <;> rfl), by go_grown⟩
    · skip
      rcases h2 : inC 1 65536 c with _ | _
      · skip
        rcases h4 : inC 0 64 f with _ | _
        · skip
          go_enter Try.func27, Try.ntmps27
          go_wp2_with (go_at_call 19; refine (isWithin_any _ _ _ _).mono ?_; rintro x w' ⟨rfl, rfl⟩; (try simp only [h0, h1, h2, h4]))
          go_ret
          exact ⟨ret_b (by unfold okC; rw [h0, h1, h2, h4] <;> rfl), by go_grown⟩
        · rcases h5 : inC 0 1000000 g with _ | _
          · skip
            go_enter Try.func27, Try.ntmps27
            go_wp2_with (go_at_call 19; refine (isWithin_any _ _ _ _).mono ?_; rintro x w' ⟨rfl, rfl⟩; (try simp only [h0, h1, h2, h4, h5]))
            go_ret
            exact ⟨ret_b (by unfold okC; rw [h0, h1, h2, h4, h5] <;> rfl), by go_grown⟩
          · skip
            go_enter Try.func27, Try.ntmps27
            go_wp2_with (go_at_call 19; refine (isWithin_any _ _ _ _).mono ?_; rintro x w' ⟨rfl, rfl⟩; (try simp only [h0, h1, h2, h4, h5]))
            go_ret
            exact ⟨ret_b (by unfold okC; rw [h0, h1, h2, h4, h5] <;> rfl), by go_grown⟩
      · rcases h3 : inC 1 1000000 d with _ | _
        · skip
          rcases h4 : inC 0 64 f with _ | _
          · skip
            go_enter Try.func27, Try.ntmps27
            go_wp2_with (go_at_call 19; refine (isWithin_any _ _ _ _).mono ?_; rintro x w' ⟨rfl, rfl⟩; (try simp only [h0, h1, h2, h3, h4]))
            go_ret
            exact ⟨ret_b (by unfold okC; rw [h0, h1, h2, h3, h4] <;> rfl), by go_grown⟩
          · rcases h5 : inC 0 1000000 g with _ | _
            · skip
              go_enter Try.func27, Try.ntmps27
              go_wp2_with (go_at_call 19; refine (isWithin_any _ _ _ _).mono ?_; rintro x w' ⟨rfl, rfl⟩; (try simp only [h0, h1, h2, h3, h4, h5]))
              go_ret
              exact ⟨ret_b (by unfold okC; rw [h0, h1, h2, h3, h4, h5] <;> rfl), by go_grown⟩
            · skip
              go_enter Try.func27, Try.ntmps27
              go_wp2_with (go_at_call 19; refine (isWithin_any _ _ _ _).mono ?_; rintro x w' ⟨rfl, rfl⟩; (try simp only [h0, h1, h2, h3, h4, h5]))
              go_ret
              exact ⟨ret_b (by unfold okC; rw [h0, h1, h2, h3, h4, h5] <;> rfl), by go_grown⟩
        · skip
          rcases h4 : inC 0 64 f with _ | _
          · skip
            go_enter Try.func27, Try.ntmps27
            go_wp2_with (go_at_call 19; refine (isWithin_any _ _ _ _).mono ?_; rintro x w' ⟨rfl, rfl⟩; (try simp only [h0, h1, h2, h3, h4]))
            go_ret
            exact ⟨ret_b (by unfold okC; rw [h0, h1, h2, h3, h4] <;> rfl), by go_grown⟩
          · rcases h5 : inC 0 1000000 g with _ | _
            · skip
              go_enter Try.func27, Try.ntmps27
              go_wp2_with (go_at_call 19; refine (isWithin_any _ _ _ _).mono ?_; rintro x w' ⟨rfl, rfl⟩; (try simp only [h0, h1, h2, h3, h4, h5]))
              go_ret
              exact ⟨ret_b (by unfold okC; rw [h0, h1, h2, h3, h4, h5] <;> rfl), by go_grown⟩
            · skip
              go_enter Try.func27, Try.ntmps27
              go_wp2_with (go_at_call 19; refine (isWithin_any _ _ _ _).mono ?_; rintro x w' ⟨rfl, rfl⟩; (try simp only [h0, h1, h2, h3, h4, h5]))
              go_ret
              exact ⟨ret_b (by unfold okC; rw [h0, h1, h2, h3, h4, h5] <;> rfl), by go_grown⟩




set_option maxHeartbeats 2000000 in
theorem width_any (a b c d : Int) (e : Bool) (f g : Int) (h0 : 1 ≤ a) (h1 : a ≤ 12) (w : World) :
    Calls Try.prog 33 #[cam a b c d e f g] w (fun y w' => y = .returned (.int .i64 (a * 16)) ∧ Below w.heap.size w w') := by
  go_enter Try.func33, Try.ntmps33
  go_wp2_with fail
  go_ret
  exact ⟨rfl, by go_grown⟩

set_option maxHeartbeats 2000000 in
theorem height_any (a b c d : Int) (e : Bool) (f g : Int) (h0 : 1 ≤ b) (h1 : b ≤ 12) (w : World) :
    Calls Try.prog 34 #[cam a b c d e f g] w (fun y w' => y = .returned (.int .i64 (b * 16)) ∧ Below w.heap.size w w') := by
  go_enter Try.func34, Try.ntmps34
  go_wp2_with fail
  go_ret
  exact ⟨rfl, by go_grown⟩
end Go.Proofs.Ytolinlcihddkoab
