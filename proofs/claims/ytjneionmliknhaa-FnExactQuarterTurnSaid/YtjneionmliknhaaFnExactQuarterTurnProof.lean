/-
  Proved: the law FnExactQuarterTurn returns true for every input and its arguments read behind the call as they read before. Conditions: none of our own; those of the given row alone.
-/
import Derived.Test.YtjneionmliknhaaRows
import Derived.WalkKit
import Derived.ProofKit
import Derived.OpenShut
import Derived.ShutString
import Derived.SliceStrings
import Derived.ChangeOld
import Derived.Below
import Derived.Test.YtjneionmliknhaaFlat
import Derived.Test.YtjneionmliknhaaVbox
import Derived.Test.YtjneionmliknhaaVec
import Derived.Test.YtjneionmliknhaaHeld
import Derived.Test.YtjneionmliknhaaArr
import Derived.Test.YtjneionmliknhaaTr
import Derived.Test.YtjneionmliknhaaTTo
import Derived.Test.YtjneionmliknhaaTMat
import Derived.Test.YtjneionmliknhaaTIden
import Derived.Test.YtjneionmliknhaaTQi
import Derived.Test.YtjneionmliknhaaTQm
import Derived.Test.YtjneionmliknhaaTQs
import Derived.Test.YtjneionmliknhaaTQs0
import Derived.Test.YtjneionmliknhaaTQs1
import Derived.Test.YtjneionmliknhaaTQs2
import Derived.Deep.RegionHeld3
import Derived.Deep.DeepCutAuto
import Derived.Handy
import Derived.Test.YtjneionmliknhaaMem
namespace Go.Proofs.Ytjneionmliknhaa.fnExactQuarterTurn
open Go.ChangeShapes Go.WideShapes Go.ChangeAt Go.RowKit
open Go.ChangeMaps (open_string shut_string)
set_option linter.unusedVariables false

theorem own : ownKnob Try.prog.godebug = none := by kernel_rfl
theorem laidOut : laidOutB Try.prog = true := by kernel_rfl
set_option maxHeartbeats 8000000 in
theorem walk (w : World) (a0 : Int) (w0 : (Lit.int .i64 a0).wf = true) (a1 : Int) (w1 : (Lit.int .i64 a1).wf = true) :
    Calls Try.prog 7 #[.int .i64 a0, .int .i64 a1] w fun e w' => e = .returned (.bool true) ∧ Below w.heap.size w w' := by
  have HT := Held.nil w
  have hw1 := bounds_i64 w1
  obtain ⟨h0, h1⟩ := hw1
  clear w0 w1
  by_cases hax : 0 ≤ a0 ∧ a0 ≤ 2
  · have hj : a1 % 4 = 0 ∨ a1 % 4 = 1 ∨ a1 % 4 = 2 ∨ a1 % 4 = 3 := by omega
    have ha : a0 = 0 ∨ a0 = 1 ∨ a0 = 2 := by omega
    clear hax
    rcases ha with rfl | rfl | rfl
    · rcases hj with hj | hj | hj | hj
      · have CI : ∀ w : World, Calls Try.prog 26 #[.int .i64 0, .int .i64 a1] w (TrOut 16 0 0 0 16 0 0 0 16 0 0 0 w) := fun w => quarter_0_0 a1 w h0 h1 hj
        have CS : ∀ w : World, Calls Try.prog 25 #[.int .i64 0, .int .i64 a1] w (TrOut 16 0 0 0 16 0 0 0 16 0 0 0 w) := fun w => by
          have h := sQuarter_0 a1 w h0 h1
          rw [hj] at h
          exact h
        clear hj h0 h1
        go_enter Try.func7, Try.ntmps7
        go_wp2_with fail
        refine (CS _).mono ?_
        rintro e w1 ⟨rfl, hb1⟩
        have HT := (HT.later hb1).new #[.int .i64 16, .int .i64 0, .int .i64 0, .int .i64 0, .int .i64 16, .int .i64 0, .int .i64 0, .int .i64 0, .int .i64 16, .int .i64 0, .int .i64 0, .int .i64 0] 30
        clear hb1
        go_wp2_with fail
        refine (CI _).mono ?_
        rintro e w2 ⟨rfl, hb2⟩
        have HT := (HT.later hb2).new #[.int .i64 16, .int .i64 0, .int .i64 0, .int .i64 0, .int .i64 16, .int .i64 0, .int .i64 0, .int .i64 0, .int .i64 16, .int .i64 0, .int .i64 0, .int .i64 0] 30
        clear hb2
        have c0 := (HT.box 0).c 0
        have c1 := (HT.box 0).c 1
        have c2 := (HT.box 0).c 2
        have c3 := (HT.box 0).c 3
        have c4 := (HT.box 0).c 4
        have c5 := (HT.box 0).c 5
        have c6 := (HT.box 0).c 6
        have c7 := (HT.box 0).c 7
        have c8 := (HT.box 0).c 8
        have c9 := (HT.box 0).c 9
        have c10 := (HT.box 0).c 10
        have c11 := (HT.box 0).c 11
        have d0 := (HT.box 1).c 0
        have d1 := (HT.box 1).c 1
        have d2 := (HT.box 1).c 2
        have d3 := (HT.box 1).c 3
        have d4 := (HT.box 1).c 4
        have d5 := (HT.box 1).c 5
        have d6 := (HT.box 1).c 6
        have d7 := (HT.box 1).c 7
        have d8 := (HT.box 1).c 8
        have d9 := (HT.box 1).c 9
        have d10 := (HT.box 1).c 10
        have d11 := (HT.box 1).c 11
        go_wp2_with fail
        refine (eqTransform_same _ _ _ _ _ _ _ _ _ _ _ _ _).mono ?_
        rintro e w3 ⟨rfl, hb3⟩
        have HT := (HT.later hb3)
        clear hb3
        clear c0 c1 c2 c3 c4 c5 c6 c7 c8 c9 c10 c11 d0 d1 d2 d3 d4 d5 d6 d7 d8 d9 d10 d11
        go_wp2_with fail
        go_ret
        exact ⟨rfl, HT.below⟩
      · have CI : ∀ w : World, Calls Try.prog 26 #[.int .i64 0, .int .i64 a1] w (TrOut 16 0 0 0 0 (-16) 0 16 0 0 0 0 w) := fun w => quarter_0_1 a1 w h0 h1 hj
        have CS : ∀ w : World, Calls Try.prog 25 #[.int .i64 0, .int .i64 a1] w (TrOut 16 0 0 0 0 (-16) 0 16 0 0 0 0 w) := fun w => by
          have h := sQuarter_0 a1 w h0 h1
          rw [hj] at h
          exact h
        clear hj h0 h1
        go_enter Try.func7, Try.ntmps7
        go_wp2_with fail
        refine (CS _).mono ?_
        rintro e w1 ⟨rfl, hb1⟩
        have HT := (HT.later hb1).new #[.int .i64 16, .int .i64 0, .int .i64 0, .int .i64 0, .int .i64 0, .int .i64 ((-16)), .int .i64 0, .int .i64 16, .int .i64 0, .int .i64 0, .int .i64 0, .int .i64 0] 30
        clear hb1
        go_wp2_with fail
        refine (CI _).mono ?_
        rintro e w2 ⟨rfl, hb2⟩
        have HT := (HT.later hb2).new #[.int .i64 16, .int .i64 0, .int .i64 0, .int .i64 0, .int .i64 0, .int .i64 ((-16)), .int .i64 0, .int .i64 16, .int .i64 0, .int .i64 0, .int .i64 0, .int .i64 0] 30
        clear hb2
        have c0 := (HT.box 0).c 0
        have c1 := (HT.box 0).c 1
        have c2 := (HT.box 0).c 2
        have c3 := (HT.box 0).c 3
        have c4 := (HT.box 0).c 4
        have c5 := (HT.box 0).c 5
        have c6 := (HT.box 0).c 6
        have c7 := (HT.box 0).c 7
        have c8 := (HT.box 0).c 8
        have c9 := (HT.box 0).c 9
        have c10 := (HT.box 0).c 10
        have c11 := (HT.box 0).c 11
        have d0 := (HT.box 1).c 0
        have d1 := (HT.box 1).c 1
        have d2 := (HT.box 1).c 2
        have d3 := (HT.box 1).c 3
        have d4 := (HT.box 1).c 4
        have d5 := (HT.box 1).c 5
        have d6 := (HT.box 1).c 6
        have d7 := (HT.box 1).c 7
        have d8 := (HT.box 1).c 8
        have d9 := (HT.box 1).c 9
        have d10 := (HT.box 1).c 10
        have d11 := (HT.box 1).c 11
        go_wp2_with fail
        refine (eqTransform_same _ _ _ _ _ _ _ _ _ _ _ _ _).mono ?_
        rintro e w3 ⟨rfl, hb3⟩
        have HT := (HT.later hb3)
        clear hb3
        clear c0 c1 c2 c3 c4 c5 c6 c7 c8 c9 c10 c11 d0 d1 d2 d3 d4 d5 d6 d7 d8 d9 d10 d11
        go_wp2_with fail
        go_ret
        exact ⟨rfl, HT.below⟩
      · have CI : ∀ w : World, Calls Try.prog 26 #[.int .i64 0, .int .i64 a1] w (TrOut 16 0 0 0 (-16) 0 0 0 (-16) 0 0 0 w) := fun w => quarter_0_2 a1 w h0 h1 hj
        have CS : ∀ w : World, Calls Try.prog 25 #[.int .i64 0, .int .i64 a1] w (TrOut 16 0 0 0 (-16) 0 0 0 (-16) 0 0 0 w) := fun w => by
          have h := sQuarter_0 a1 w h0 h1
          rw [hj] at h
          exact h
        clear hj h0 h1
        go_enter Try.func7, Try.ntmps7
        go_wp2_with fail
        refine (CS _).mono ?_
        rintro e w1 ⟨rfl, hb1⟩
        have HT := (HT.later hb1).new #[.int .i64 16, .int .i64 0, .int .i64 0, .int .i64 0, .int .i64 ((-16)), .int .i64 0, .int .i64 0, .int .i64 0, .int .i64 ((-16)), .int .i64 0, .int .i64 0, .int .i64 0] 30
        clear hb1
        go_wp2_with fail
        refine (CI _).mono ?_
        rintro e w2 ⟨rfl, hb2⟩
        have HT := (HT.later hb2).new #[.int .i64 16, .int .i64 0, .int .i64 0, .int .i64 0, .int .i64 ((-16)), .int .i64 0, .int .i64 0, .int .i64 0, .int .i64 ((-16)), .int .i64 0, .int .i64 0, .int .i64 0] 30
        clear hb2
        have c0 := (HT.box 0).c 0
        have c1 := (HT.box 0).c 1
        have c2 := (HT.box 0).c 2
        have c3 := (HT.box 0).c 3
        have c4 := (HT.box 0).c 4
        have c5 := (HT.box 0).c 5
        have c6 := (HT.box 0).c 6
        have c7 := (HT.box 0).c 7
        have c8 := (HT.box 0).c 8
        have c9 := (HT.box 0).c 9
        have c10 := (HT.box 0).c 10
        have c11 := (HT.box 0).c 11
        have d0 := (HT.box 1).c 0
        have d1 := (HT.box 1).c 1
        have d2 := (HT.box 1).c 2
        have d3 := (HT.box 1).c 3
        have d4 := (HT.box 1).c 4
        have d5 := (HT.box 1).c 5
        have d6 := (HT.box 1).c 6
        have d7 := (HT.box 1).c 7
        have d8 := (HT.box 1).c 8
        have d9 := (HT.box 1).c 9
        have d10 := (HT.box 1).c 10
        have d11 := (HT.box 1).c 11
        go_wp2_with fail
        refine (eqTransform_same _ _ _ _ _ _ _ _ _ _ _ _ _).mono ?_
        rintro e w3 ⟨rfl, hb3⟩
        have HT := (HT.later hb3)
        clear hb3
        clear c0 c1 c2 c3 c4 c5 c6 c7 c8 c9 c10 c11 d0 d1 d2 d3 d4 d5 d6 d7 d8 d9 d10 d11
        go_wp2_with fail
        go_ret
        exact ⟨rfl, HT.below⟩
      · have CI : ∀ w : World, Calls Try.prog 26 #[.int .i64 0, .int .i64 a1] w (TrOut 16 0 0 0 0 16 0 (-16) 0 0 0 0 w) := fun w => quarter_0_3 a1 w h0 h1 hj
        have CS : ∀ w : World, Calls Try.prog 25 #[.int .i64 0, .int .i64 a1] w (TrOut 16 0 0 0 0 16 0 (-16) 0 0 0 0 w) := fun w => by
          have h := sQuarter_0 a1 w h0 h1
          rw [hj] at h
          exact h
        clear hj h0 h1
        go_enter Try.func7, Try.ntmps7
        go_wp2_with fail
        refine (CS _).mono ?_
        rintro e w1 ⟨rfl, hb1⟩
        have HT := (HT.later hb1).new #[.int .i64 16, .int .i64 0, .int .i64 0, .int .i64 0, .int .i64 0, .int .i64 16, .int .i64 0, .int .i64 ((-16)), .int .i64 0, .int .i64 0, .int .i64 0, .int .i64 0] 30
        clear hb1
        go_wp2_with fail
        refine (CI _).mono ?_
        rintro e w2 ⟨rfl, hb2⟩
        have HT := (HT.later hb2).new #[.int .i64 16, .int .i64 0, .int .i64 0, .int .i64 0, .int .i64 0, .int .i64 16, .int .i64 0, .int .i64 ((-16)), .int .i64 0, .int .i64 0, .int .i64 0, .int .i64 0] 30
        clear hb2
        have c0 := (HT.box 0).c 0
        have c1 := (HT.box 0).c 1
        have c2 := (HT.box 0).c 2
        have c3 := (HT.box 0).c 3
        have c4 := (HT.box 0).c 4
        have c5 := (HT.box 0).c 5
        have c6 := (HT.box 0).c 6
        have c7 := (HT.box 0).c 7
        have c8 := (HT.box 0).c 8
        have c9 := (HT.box 0).c 9
        have c10 := (HT.box 0).c 10
        have c11 := (HT.box 0).c 11
        have d0 := (HT.box 1).c 0
        have d1 := (HT.box 1).c 1
        have d2 := (HT.box 1).c 2
        have d3 := (HT.box 1).c 3
        have d4 := (HT.box 1).c 4
        have d5 := (HT.box 1).c 5
        have d6 := (HT.box 1).c 6
        have d7 := (HT.box 1).c 7
        have d8 := (HT.box 1).c 8
        have d9 := (HT.box 1).c 9
        have d10 := (HT.box 1).c 10
        have d11 := (HT.box 1).c 11
        go_wp2_with fail
        refine (eqTransform_same _ _ _ _ _ _ _ _ _ _ _ _ _).mono ?_
        rintro e w3 ⟨rfl, hb3⟩
        have HT := (HT.later hb3)
        clear hb3
        clear c0 c1 c2 c3 c4 c5 c6 c7 c8 c9 c10 c11 d0 d1 d2 d3 d4 d5 d6 d7 d8 d9 d10 d11
        go_wp2_with fail
        go_ret
        exact ⟨rfl, HT.below⟩
    · rcases hj with hj | hj | hj | hj
      · have CI : ∀ w : World, Calls Try.prog 26 #[.int .i64 1, .int .i64 a1] w (TrOut 16 0 0 0 16 0 0 0 16 0 0 0 w) := fun w => quarter_1_0 a1 w h0 h1 hj
        have CS : ∀ w : World, Calls Try.prog 25 #[.int .i64 1, .int .i64 a1] w (TrOut 16 0 0 0 16 0 0 0 16 0 0 0 w) := fun w => by
          have h := sQuarter_1 a1 w h0 h1
          rw [hj] at h
          exact h
        clear hj h0 h1
        go_enter Try.func7, Try.ntmps7
        go_wp2_with fail
        refine (CS _).mono ?_
        rintro e w1 ⟨rfl, hb1⟩
        have HT := (HT.later hb1).new #[.int .i64 16, .int .i64 0, .int .i64 0, .int .i64 0, .int .i64 16, .int .i64 0, .int .i64 0, .int .i64 0, .int .i64 16, .int .i64 0, .int .i64 0, .int .i64 0] 30
        clear hb1
        go_wp2_with fail
        refine (CI _).mono ?_
        rintro e w2 ⟨rfl, hb2⟩
        have HT := (HT.later hb2).new #[.int .i64 16, .int .i64 0, .int .i64 0, .int .i64 0, .int .i64 16, .int .i64 0, .int .i64 0, .int .i64 0, .int .i64 16, .int .i64 0, .int .i64 0, .int .i64 0] 30
        clear hb2
        have c0 := (HT.box 0).c 0
        have c1 := (HT.box 0).c 1
        have c2 := (HT.box 0).c 2
        have c3 := (HT.box 0).c 3
        have c4 := (HT.box 0).c 4
        have c5 := (HT.box 0).c 5
        have c6 := (HT.box 0).c 6
        have c7 := (HT.box 0).c 7
        have c8 := (HT.box 0).c 8
        have c9 := (HT.box 0).c 9
        have c10 := (HT.box 0).c 10
        have c11 := (HT.box 0).c 11
        have d0 := (HT.box 1).c 0
        have d1 := (HT.box 1).c 1
        have d2 := (HT.box 1).c 2
        have d3 := (HT.box 1).c 3
        have d4 := (HT.box 1).c 4
        have d5 := (HT.box 1).c 5
        have d6 := (HT.box 1).c 6
        have d7 := (HT.box 1).c 7
        have d8 := (HT.box 1).c 8
        have d9 := (HT.box 1).c 9
        have d10 := (HT.box 1).c 10
        have d11 := (HT.box 1).c 11
        go_wp2_with fail
        refine (eqTransform_same _ _ _ _ _ _ _ _ _ _ _ _ _).mono ?_
        rintro e w3 ⟨rfl, hb3⟩
        have HT := (HT.later hb3)
        clear hb3
        clear c0 c1 c2 c3 c4 c5 c6 c7 c8 c9 c10 c11 d0 d1 d2 d3 d4 d5 d6 d7 d8 d9 d10 d11
        go_wp2_with fail
        go_ret
        exact ⟨rfl, HT.below⟩
      · have CI : ∀ w : World, Calls Try.prog 26 #[.int .i64 1, .int .i64 a1] w (TrOut 0 0 16 0 16 0 (-16) 0 0 0 0 0 w) := fun w => quarter_1_1 a1 w h0 h1 hj
        have CS : ∀ w : World, Calls Try.prog 25 #[.int .i64 1, .int .i64 a1] w (TrOut 0 0 16 0 16 0 (-16) 0 0 0 0 0 w) := fun w => by
          have h := sQuarter_1 a1 w h0 h1
          rw [hj] at h
          exact h
        clear hj h0 h1
        go_enter Try.func7, Try.ntmps7
        go_wp2_with fail
        refine (CS _).mono ?_
        rintro e w1 ⟨rfl, hb1⟩
        have HT := (HT.later hb1).new #[.int .i64 0, .int .i64 0, .int .i64 16, .int .i64 0, .int .i64 16, .int .i64 0, .int .i64 ((-16)), .int .i64 0, .int .i64 0, .int .i64 0, .int .i64 0, .int .i64 0] 30
        clear hb1
        go_wp2_with fail
        refine (CI _).mono ?_
        rintro e w2 ⟨rfl, hb2⟩
        have HT := (HT.later hb2).new #[.int .i64 0, .int .i64 0, .int .i64 16, .int .i64 0, .int .i64 16, .int .i64 0, .int .i64 ((-16)), .int .i64 0, .int .i64 0, .int .i64 0, .int .i64 0, .int .i64 0] 30
        clear hb2
        have c0 := (HT.box 0).c 0
        have c1 := (HT.box 0).c 1
        have c2 := (HT.box 0).c 2
        have c3 := (HT.box 0).c 3
        have c4 := (HT.box 0).c 4
        have c5 := (HT.box 0).c 5
        have c6 := (HT.box 0).c 6
        have c7 := (HT.box 0).c 7
        have c8 := (HT.box 0).c 8
        have c9 := (HT.box 0).c 9
        have c10 := (HT.box 0).c 10
        have c11 := (HT.box 0).c 11
        have d0 := (HT.box 1).c 0
        have d1 := (HT.box 1).c 1
        have d2 := (HT.box 1).c 2
        have d3 := (HT.box 1).c 3
        have d4 := (HT.box 1).c 4
        have d5 := (HT.box 1).c 5
        have d6 := (HT.box 1).c 6
        have d7 := (HT.box 1).c 7
        have d8 := (HT.box 1).c 8
        have d9 := (HT.box 1).c 9
        have d10 := (HT.box 1).c 10
        have d11 := (HT.box 1).c 11
        go_wp2_with fail
        refine (eqTransform_same _ _ _ _ _ _ _ _ _ _ _ _ _).mono ?_
        rintro e w3 ⟨rfl, hb3⟩
        have HT := (HT.later hb3)
        clear hb3
        clear c0 c1 c2 c3 c4 c5 c6 c7 c8 c9 c10 c11 d0 d1 d2 d3 d4 d5 d6 d7 d8 d9 d10 d11
        go_wp2_with fail
        go_ret
        exact ⟨rfl, HT.below⟩
      · have CI : ∀ w : World, Calls Try.prog 26 #[.int .i64 1, .int .i64 a1] w (TrOut (-16) 0 0 0 16 0 0 0 (-16) 0 0 0 w) := fun w => quarter_1_2 a1 w h0 h1 hj
        have CS : ∀ w : World, Calls Try.prog 25 #[.int .i64 1, .int .i64 a1] w (TrOut (-16) 0 0 0 16 0 0 0 (-16) 0 0 0 w) := fun w => by
          have h := sQuarter_1 a1 w h0 h1
          rw [hj] at h
          exact h
        clear hj h0 h1
        go_enter Try.func7, Try.ntmps7
        go_wp2_with fail
        refine (CS _).mono ?_
        rintro e w1 ⟨rfl, hb1⟩
        have HT := (HT.later hb1).new #[.int .i64 ((-16)), .int .i64 0, .int .i64 0, .int .i64 0, .int .i64 16, .int .i64 0, .int .i64 0, .int .i64 0, .int .i64 ((-16)), .int .i64 0, .int .i64 0, .int .i64 0] 30
        clear hb1
        go_wp2_with fail
        refine (CI _).mono ?_
        rintro e w2 ⟨rfl, hb2⟩
        have HT := (HT.later hb2).new #[.int .i64 ((-16)), .int .i64 0, .int .i64 0, .int .i64 0, .int .i64 16, .int .i64 0, .int .i64 0, .int .i64 0, .int .i64 ((-16)), .int .i64 0, .int .i64 0, .int .i64 0] 30
        clear hb2
        have c0 := (HT.box 0).c 0
        have c1 := (HT.box 0).c 1
        have c2 := (HT.box 0).c 2
        have c3 := (HT.box 0).c 3
        have c4 := (HT.box 0).c 4
        have c5 := (HT.box 0).c 5
        have c6 := (HT.box 0).c 6
        have c7 := (HT.box 0).c 7
        have c8 := (HT.box 0).c 8
        have c9 := (HT.box 0).c 9
        have c10 := (HT.box 0).c 10
        have c11 := (HT.box 0).c 11
        have d0 := (HT.box 1).c 0
        have d1 := (HT.box 1).c 1
        have d2 := (HT.box 1).c 2
        have d3 := (HT.box 1).c 3
        have d4 := (HT.box 1).c 4
        have d5 := (HT.box 1).c 5
        have d6 := (HT.box 1).c 6
        have d7 := (HT.box 1).c 7
        have d8 := (HT.box 1).c 8
        have d9 := (HT.box 1).c 9
        have d10 := (HT.box 1).c 10
        have d11 := (HT.box 1).c 11
        go_wp2_with fail
        refine (eqTransform_same _ _ _ _ _ _ _ _ _ _ _ _ _).mono ?_
        rintro e w3 ⟨rfl, hb3⟩
        have HT := (HT.later hb3)
        clear hb3
        clear c0 c1 c2 c3 c4 c5 c6 c7 c8 c9 c10 c11 d0 d1 d2 d3 d4 d5 d6 d7 d8 d9 d10 d11
        go_wp2_with fail
        go_ret
        exact ⟨rfl, HT.below⟩
      · have CI : ∀ w : World, Calls Try.prog 26 #[.int .i64 1, .int .i64 a1] w (TrOut 0 0 (-16) 0 16 0 16 0 0 0 0 0 w) := fun w => quarter_1_3 a1 w h0 h1 hj
        have CS : ∀ w : World, Calls Try.prog 25 #[.int .i64 1, .int .i64 a1] w (TrOut 0 0 (-16) 0 16 0 16 0 0 0 0 0 w) := fun w => by
          have h := sQuarter_1 a1 w h0 h1
          rw [hj] at h
          exact h
        clear hj h0 h1
        go_enter Try.func7, Try.ntmps7
        go_wp2_with fail
        refine (CS _).mono ?_
        rintro e w1 ⟨rfl, hb1⟩
        have HT := (HT.later hb1).new #[.int .i64 0, .int .i64 0, .int .i64 ((-16)), .int .i64 0, .int .i64 16, .int .i64 0, .int .i64 16, .int .i64 0, .int .i64 0, .int .i64 0, .int .i64 0, .int .i64 0] 30
        clear hb1
        go_wp2_with fail
        refine (CI _).mono ?_
        rintro e w2 ⟨rfl, hb2⟩
        have HT := (HT.later hb2).new #[.int .i64 0, .int .i64 0, .int .i64 ((-16)), .int .i64 0, .int .i64 16, .int .i64 0, .int .i64 16, .int .i64 0, .int .i64 0, .int .i64 0, .int .i64 0, .int .i64 0] 30
        clear hb2
        have c0 := (HT.box 0).c 0
        have c1 := (HT.box 0).c 1
        have c2 := (HT.box 0).c 2
        have c3 := (HT.box 0).c 3
        have c4 := (HT.box 0).c 4
        have c5 := (HT.box 0).c 5
        have c6 := (HT.box 0).c 6
        have c7 := (HT.box 0).c 7
        have c8 := (HT.box 0).c 8
        have c9 := (HT.box 0).c 9
        have c10 := (HT.box 0).c 10
        have c11 := (HT.box 0).c 11
        have d0 := (HT.box 1).c 0
        have d1 := (HT.box 1).c 1
        have d2 := (HT.box 1).c 2
        have d3 := (HT.box 1).c 3
        have d4 := (HT.box 1).c 4
        have d5 := (HT.box 1).c 5
        have d6 := (HT.box 1).c 6
        have d7 := (HT.box 1).c 7
        have d8 := (HT.box 1).c 8
        have d9 := (HT.box 1).c 9
        have d10 := (HT.box 1).c 10
        have d11 := (HT.box 1).c 11
        go_wp2_with fail
        refine (eqTransform_same _ _ _ _ _ _ _ _ _ _ _ _ _).mono ?_
        rintro e w3 ⟨rfl, hb3⟩
        have HT := (HT.later hb3)
        clear hb3
        clear c0 c1 c2 c3 c4 c5 c6 c7 c8 c9 c10 c11 d0 d1 d2 d3 d4 d5 d6 d7 d8 d9 d10 d11
        go_wp2_with fail
        go_ret
        exact ⟨rfl, HT.below⟩
    · rcases hj with hj | hj | hj | hj
      · have CI : ∀ w : World, Calls Try.prog 26 #[.int .i64 2, .int .i64 a1] w (TrOut 16 0 0 0 16 0 0 0 16 0 0 0 w) := fun w => quarter_2_0 a1 w h0 h1 hj
        have CS : ∀ w : World, Calls Try.prog 25 #[.int .i64 2, .int .i64 a1] w (TrOut 16 0 0 0 16 0 0 0 16 0 0 0 w) := fun w => by
          have h := sQuarter_2 a1 w h0 h1
          rw [hj] at h
          exact h
        clear hj h0 h1
        go_enter Try.func7, Try.ntmps7
        go_wp2_with fail
        refine (CS _).mono ?_
        rintro e w1 ⟨rfl, hb1⟩
        have HT := (HT.later hb1).new #[.int .i64 16, .int .i64 0, .int .i64 0, .int .i64 0, .int .i64 16, .int .i64 0, .int .i64 0, .int .i64 0, .int .i64 16, .int .i64 0, .int .i64 0, .int .i64 0] 30
        clear hb1
        go_wp2_with fail
        refine (CI _).mono ?_
        rintro e w2 ⟨rfl, hb2⟩
        have HT := (HT.later hb2).new #[.int .i64 16, .int .i64 0, .int .i64 0, .int .i64 0, .int .i64 16, .int .i64 0, .int .i64 0, .int .i64 0, .int .i64 16, .int .i64 0, .int .i64 0, .int .i64 0] 30
        clear hb2
        have c0 := (HT.box 0).c 0
        have c1 := (HT.box 0).c 1
        have c2 := (HT.box 0).c 2
        have c3 := (HT.box 0).c 3
        have c4 := (HT.box 0).c 4
        have c5 := (HT.box 0).c 5
        have c6 := (HT.box 0).c 6
        have c7 := (HT.box 0).c 7
        have c8 := (HT.box 0).c 8
        have c9 := (HT.box 0).c 9
        have c10 := (HT.box 0).c 10
        have c11 := (HT.box 0).c 11
        have d0 := (HT.box 1).c 0
        have d1 := (HT.box 1).c 1
        have d2 := (HT.box 1).c 2
        have d3 := (HT.box 1).c 3
        have d4 := (HT.box 1).c 4
        have d5 := (HT.box 1).c 5
        have d6 := (HT.box 1).c 6
        have d7 := (HT.box 1).c 7
        have d8 := (HT.box 1).c 8
        have d9 := (HT.box 1).c 9
        have d10 := (HT.box 1).c 10
        have d11 := (HT.box 1).c 11
        go_wp2_with fail
        refine (eqTransform_same _ _ _ _ _ _ _ _ _ _ _ _ _).mono ?_
        rintro e w3 ⟨rfl, hb3⟩
        have HT := (HT.later hb3)
        clear hb3
        clear c0 c1 c2 c3 c4 c5 c6 c7 c8 c9 c10 c11 d0 d1 d2 d3 d4 d5 d6 d7 d8 d9 d10 d11
        go_wp2_with fail
        go_ret
        exact ⟨rfl, HT.below⟩
      · have CI : ∀ w : World, Calls Try.prog 26 #[.int .i64 2, .int .i64 a1] w (TrOut 0 (-16) 0 16 0 0 0 0 16 0 0 0 w) := fun w => quarter_2_1 a1 w h0 h1 hj
        have CS : ∀ w : World, Calls Try.prog 25 #[.int .i64 2, .int .i64 a1] w (TrOut 0 (-16) 0 16 0 0 0 0 16 0 0 0 w) := fun w => by
          have h := sQuarter_2 a1 w h0 h1
          rw [hj] at h
          exact h
        clear hj h0 h1
        go_enter Try.func7, Try.ntmps7
        go_wp2_with fail
        refine (CS _).mono ?_
        rintro e w1 ⟨rfl, hb1⟩
        have HT := (HT.later hb1).new #[.int .i64 0, .int .i64 ((-16)), .int .i64 0, .int .i64 16, .int .i64 0, .int .i64 0, .int .i64 0, .int .i64 0, .int .i64 16, .int .i64 0, .int .i64 0, .int .i64 0] 30
        clear hb1
        go_wp2_with fail
        refine (CI _).mono ?_
        rintro e w2 ⟨rfl, hb2⟩
        have HT := (HT.later hb2).new #[.int .i64 0, .int .i64 ((-16)), .int .i64 0, .int .i64 16, .int .i64 0, .int .i64 0, .int .i64 0, .int .i64 0, .int .i64 16, .int .i64 0, .int .i64 0, .int .i64 0] 30
        clear hb2
        have c0 := (HT.box 0).c 0
        have c1 := (HT.box 0).c 1
        have c2 := (HT.box 0).c 2
        have c3 := (HT.box 0).c 3
        have c4 := (HT.box 0).c 4
        have c5 := (HT.box 0).c 5
        have c6 := (HT.box 0).c 6
        have c7 := (HT.box 0).c 7
        have c8 := (HT.box 0).c 8
        have c9 := (HT.box 0).c 9
        have c10 := (HT.box 0).c 10
        have c11 := (HT.box 0).c 11
        have d0 := (HT.box 1).c 0
        have d1 := (HT.box 1).c 1
        have d2 := (HT.box 1).c 2
        have d3 := (HT.box 1).c 3
        have d4 := (HT.box 1).c 4
        have d5 := (HT.box 1).c 5
        have d6 := (HT.box 1).c 6
        have d7 := (HT.box 1).c 7
        have d8 := (HT.box 1).c 8
        have d9 := (HT.box 1).c 9
        have d10 := (HT.box 1).c 10
        have d11 := (HT.box 1).c 11
        go_wp2_with fail
        refine (eqTransform_same _ _ _ _ _ _ _ _ _ _ _ _ _).mono ?_
        rintro e w3 ⟨rfl, hb3⟩
        have HT := (HT.later hb3)
        clear hb3
        clear c0 c1 c2 c3 c4 c5 c6 c7 c8 c9 c10 c11 d0 d1 d2 d3 d4 d5 d6 d7 d8 d9 d10 d11
        go_wp2_with fail
        go_ret
        exact ⟨rfl, HT.below⟩
      · have CI : ∀ w : World, Calls Try.prog 26 #[.int .i64 2, .int .i64 a1] w (TrOut (-16) 0 0 0 (-16) 0 0 0 16 0 0 0 w) := fun w => quarter_2_2 a1 w h0 h1 hj
        have CS : ∀ w : World, Calls Try.prog 25 #[.int .i64 2, .int .i64 a1] w (TrOut (-16) 0 0 0 (-16) 0 0 0 16 0 0 0 w) := fun w => by
          have h := sQuarter_2 a1 w h0 h1
          rw [hj] at h
          exact h
        clear hj h0 h1
        go_enter Try.func7, Try.ntmps7
        go_wp2_with fail
        refine (CS _).mono ?_
        rintro e w1 ⟨rfl, hb1⟩
        have HT := (HT.later hb1).new #[.int .i64 ((-16)), .int .i64 0, .int .i64 0, .int .i64 0, .int .i64 ((-16)), .int .i64 0, .int .i64 0, .int .i64 0, .int .i64 16, .int .i64 0, .int .i64 0, .int .i64 0] 30
        clear hb1
        go_wp2_with fail
        refine (CI _).mono ?_
        rintro e w2 ⟨rfl, hb2⟩
        have HT := (HT.later hb2).new #[.int .i64 ((-16)), .int .i64 0, .int .i64 0, .int .i64 0, .int .i64 ((-16)), .int .i64 0, .int .i64 0, .int .i64 0, .int .i64 16, .int .i64 0, .int .i64 0, .int .i64 0] 30
        clear hb2
        have c0 := (HT.box 0).c 0
        have c1 := (HT.box 0).c 1
        have c2 := (HT.box 0).c 2
        have c3 := (HT.box 0).c 3
        have c4 := (HT.box 0).c 4
        have c5 := (HT.box 0).c 5
        have c6 := (HT.box 0).c 6
        have c7 := (HT.box 0).c 7
        have c8 := (HT.box 0).c 8
        have c9 := (HT.box 0).c 9
        have c10 := (HT.box 0).c 10
        have c11 := (HT.box 0).c 11
        have d0 := (HT.box 1).c 0
        have d1 := (HT.box 1).c 1
        have d2 := (HT.box 1).c 2
        have d3 := (HT.box 1).c 3
        have d4 := (HT.box 1).c 4
        have d5 := (HT.box 1).c 5
        have d6 := (HT.box 1).c 6
        have d7 := (HT.box 1).c 7
        have d8 := (HT.box 1).c 8
        have d9 := (HT.box 1).c 9
        have d10 := (HT.box 1).c 10
        have d11 := (HT.box 1).c 11
        go_wp2_with fail
        refine (eqTransform_same _ _ _ _ _ _ _ _ _ _ _ _ _).mono ?_
        rintro e w3 ⟨rfl, hb3⟩
        have HT := (HT.later hb3)
        clear hb3
        clear c0 c1 c2 c3 c4 c5 c6 c7 c8 c9 c10 c11 d0 d1 d2 d3 d4 d5 d6 d7 d8 d9 d10 d11
        go_wp2_with fail
        go_ret
        exact ⟨rfl, HT.below⟩
      · have CI : ∀ w : World, Calls Try.prog 26 #[.int .i64 2, .int .i64 a1] w (TrOut 0 16 0 (-16) 0 0 0 0 16 0 0 0 w) := fun w => quarter_2_3 a1 w h0 h1 hj
        have CS : ∀ w : World, Calls Try.prog 25 #[.int .i64 2, .int .i64 a1] w (TrOut 0 16 0 (-16) 0 0 0 0 16 0 0 0 w) := fun w => by
          have h := sQuarter_2 a1 w h0 h1
          rw [hj] at h
          exact h
        clear hj h0 h1
        go_enter Try.func7, Try.ntmps7
        go_wp2_with fail
        refine (CS _).mono ?_
        rintro e w1 ⟨rfl, hb1⟩
        have HT := (HT.later hb1).new #[.int .i64 0, .int .i64 16, .int .i64 0, .int .i64 ((-16)), .int .i64 0, .int .i64 0, .int .i64 0, .int .i64 0, .int .i64 16, .int .i64 0, .int .i64 0, .int .i64 0] 30
        clear hb1
        go_wp2_with fail
        refine (CI _).mono ?_
        rintro e w2 ⟨rfl, hb2⟩
        have HT := (HT.later hb2).new #[.int .i64 0, .int .i64 16, .int .i64 0, .int .i64 ((-16)), .int .i64 0, .int .i64 0, .int .i64 0, .int .i64 0, .int .i64 16, .int .i64 0, .int .i64 0, .int .i64 0] 30
        clear hb2
        have c0 := (HT.box 0).c 0
        have c1 := (HT.box 0).c 1
        have c2 := (HT.box 0).c 2
        have c3 := (HT.box 0).c 3
        have c4 := (HT.box 0).c 4
        have c5 := (HT.box 0).c 5
        have c6 := (HT.box 0).c 6
        have c7 := (HT.box 0).c 7
        have c8 := (HT.box 0).c 8
        have c9 := (HT.box 0).c 9
        have c10 := (HT.box 0).c 10
        have c11 := (HT.box 0).c 11
        have d0 := (HT.box 1).c 0
        have d1 := (HT.box 1).c 1
        have d2 := (HT.box 1).c 2
        have d3 := (HT.box 1).c 3
        have d4 := (HT.box 1).c 4
        have d5 := (HT.box 1).c 5
        have d6 := (HT.box 1).c 6
        have d7 := (HT.box 1).c 7
        have d8 := (HT.box 1).c 8
        have d9 := (HT.box 1).c 9
        have d10 := (HT.box 1).c 10
        have d11 := (HT.box 1).c 11
        go_wp2_with fail
        refine (eqTransform_same _ _ _ _ _ _ _ _ _ _ _ _ _).mono ?_
        rintro e w3 ⟨rfl, hb3⟩
        have HT := (HT.later hb3)
        clear hb3
        clear c0 c1 c2 c3 c4 c5 c6 c7 c8 c9 c10 c11 d0 d1 d2 d3 d4 d5 d6 d7 d8 d9 d10 d11
        go_wp2_with fail
        go_ret
        exact ⟨rfl, HT.below⟩
  · have HK := Lib.hid hax
    clear hax h0 h1
    go_enter Try.func7, Try.ntmps7
    go_wp2_with fail
    refine (sQuarter_out _ _ _ HK.out).mono ?_
    rintro e w1 ⟨rfl, hb1⟩
    have HT := (HT.later hb1).new #[.int .i64 16, .int .i64 0, .int .i64 0, .int .i64 0, .int .i64 16, .int .i64 0, .int .i64 0, .int .i64 0, .int .i64 16, .int .i64 0, .int .i64 0, .int .i64 0] 30
    clear hb1
    go_wp2_with fail
    refine (quarter_out _ _ _ HK.out).mono ?_
    rintro e w2 ⟨rfl, hb2⟩
    have HT := (HT.later hb2).new #[.int .i64 16, .int .i64 0, .int .i64 0, .int .i64 0, .int .i64 16, .int .i64 0, .int .i64 0, .int .i64 0, .int .i64 16, .int .i64 0, .int .i64 0, .int .i64 0] 30
    clear hb2
    have c0 := (HT.box 0).c 0
    have c1 := (HT.box 0).c 1
    have c2 := (HT.box 0).c 2
    have c3 := (HT.box 0).c 3
    have c4 := (HT.box 0).c 4
    have c5 := (HT.box 0).c 5
    have c6 := (HT.box 0).c 6
    have c7 := (HT.box 0).c 7
    have c8 := (HT.box 0).c 8
    have c9 := (HT.box 0).c 9
    have c10 := (HT.box 0).c 10
    have c11 := (HT.box 0).c 11
    have d0 := (HT.box 1).c 0
    have d1 := (HT.box 1).c 1
    have d2 := (HT.box 1).c 2
    have d3 := (HT.box 1).c 3
    have d4 := (HT.box 1).c 4
    have d5 := (HT.box 1).c 5
    have d6 := (HT.box 1).c 6
    have d7 := (HT.box 1).c 7
    have d8 := (HT.box 1).c 8
    have d9 := (HT.box 1).c 9
    have d10 := (HT.box 1).c 10
    have d11 := (HT.box 1).c 11
    go_wp2_with fail
    refine (eqTransform_same _ _ _ _ _ _ _ _ _ _ _ _ _).mono ?_
    rintro e w3 ⟨rfl, hb3⟩
    have HT := (HT.later hb3)
    clear hb3
    clear c0 c1 c2 c3 c4 c5 c6 c7 c8 c9 c10 c11 d0 d1 d2 d3 d4 d5 d6 d7 d8 d9 d10 d11
    go_wp2_with fail
    go_ret
    exact ⟨rfl, HT.below⟩

set_option maxRecDepth 100000 in
theorem lifted (os : Os) (started : os.Started) (H : Type) (enc : TypeId × Value → H) :
    ReturnsInHanded {} Try.checked os 7 .any (Rows.fnExactQuarterTurnSpec.pre6 enc Try.prog Try.f7 Rows.fnExactQuarterTurnRow.domain false) (Rows.fnExactQuarterTurnSpec.post enc Try.prog Try.f7 false true false false) := by
  refine returnsInHanded_of_change (C := Try.checked) own started (by kernel_rfl) Try.func7
    (ChangeSpec.witness6 (enc := enc) (C := Try.checked) false ⟨#[], #[.int .i64 0, .int .i64 0], []⟩ 8 (by kernel_rfl) (by kernel_rfl) (by kernel_rfl) (by kernel_rfl)) ?_
  intro W base args ds gs before hval0 hW hcnd _
  have hval : ∀ (j : Nat) t v, Try.f7.params[j]? = some t → args[j]? = some v → Value.okWide Try.prog W .any base t v := hval0
  have hW' := hW
  obtain ⟨p, q, hA0, hV, rfl, hfz, hnd⟩ := hW
  have hA : DataW.TrodAll enc Try.prog W 0 (fun _ => true) true Try.f7.params.toList args.toList ds p := hA0
  rw [Try.params7] at hA hval
  obtain ⟨v0, vs0, d0, ds0, p0, q0, hargs, rfl, rfl, h0, r1000⟩ := trodAll_cons hA
  obtain ⟨v1, vs1, d1, ds1, p1, q1, rfl, rfl, rfl, h1, r1001⟩ := trodAll_cons r1000
  obtain ⟨rfl, rfl, rfl⟩ := trodAll_nil r1001
  obtain rfl : args = #[v0, v1] := by cases args; simp_all
  obtain ⟨rfl, rfl⟩ := trodVars_none hV
  obtain ⟨a0, rfl, rfl, rfl, w0⟩ := open_int Try.underlying3 (hval 0 3 v0 rfl rfl) h0
  obtain ⟨a1, rfl, rfl, rfl, w1⟩ := open_int Try.underlying3 (hval 1 3 v1 rfl rfl) h1
  clear hA0
  refine (walk W a0 w0 a1 w1).mono fun e W' ⟨he, bel⟩ => ?_
  subst he
  exact ⟨_, rfl, _, _, _, [], _, [], hW', trodAll_mk1 (shut_bool Try.underlying4 _), (trodAll_cons_mk (shut_int Try.underlying3 w0) (trodAll_cons_mk (shut_int Try.underlying3 w1) trodAll_mk0)), rfl, bel.frame _, fun h => by cases h⟩

theorem proved : Rows.FnExactQuarterTurnSaid :=
  OpenClaim.holds_of_wide 7 Try.f7 rfl rfl rfl rfl rfl rfl rfl ⟨rfl, rfl, rfl, rfl, rfl⟩ rfl rfl rfl rfl rfl (by kernel_rfl) Try.func7 (by kernel_rfl)
    (of_decide_eq_true (by kernel_rfl)) (by unfold Func.isWrapper; first | (rw [if_pos (by decide +kernel)]; kernel_rfl) | (rw [if_neg (by decide +kernel)]; exact ⟨rfl, rfl⟩))
    (fun os started H enc _ => lifted os started H enc)
#print axioms proved
end Go.Proofs.Ytjneionmliknhaa.fnExactQuarterTurn
