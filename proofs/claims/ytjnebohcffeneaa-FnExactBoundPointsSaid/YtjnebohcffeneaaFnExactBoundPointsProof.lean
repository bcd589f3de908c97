/-
  Proved: the law FnExactBoundPoints returns true for every input and its arguments read behind the call as they read before. Conditions: none of our own; those of the given row alone.
-/
import Derived.Test.YtjnebohcffeneaaRows
import Derived.WalkKit
import Derived.ProofKit
import Derived.OpenShut
import Derived.ShutString
import Derived.SliceStrings
import Derived.ChangeOld
import Derived.Below
import Derived.Test.YtjnebohcffeneaaFlat
import Derived.Test.YtjnebohcffeneaaVbox
import Derived.Test.YtjnebohcffeneaaVec
import Derived.Test.YtjnebohcffeneaaHeld
import Derived.Test.YtjnebohcffeneaaMem
import Derived.Test.YtjnebohcffeneaaRowC
import Derived.Test.YtjnebohcffeneaaBox
import Derived.Test.YtjnebohcffeneaaVecS
import Derived.Test.YtjnebohcffeneaaBPts
import Derived.Handy
namespace Go.Proofs.Ytjnebohcffeneaa.fnExactBoundPoints
open Go.ChangeShapes Go.WideShapes Go.ChangeAt Go.RowKit
open Go.ChangeMaps (open_string shut_string)
set_option linter.unusedVariables false

theorem own : ownKnob Try.prog.godebug = none := by kernel_rfl
theorem laidOut : laidOutB Try.prog = true := by kernel_rfl
theorem flat3 : FlatI Try.prog 3 (Try.prog.cellsOf 3) := by rw [show Try.prog.cellsOf 3 = 1 by kernel_rfl]; exact flat1 Try.underlying3
theorem cells38 : Try.prog.cellsOf 38 = 3 := by kernel_rfl
theorem flat38_ : FlatI Try.prog 38 3 := flatS Try.underlying38 cells38 (by exact ⟨by kernel_rfl, flat3, ⟨by kernel_rfl, flat3, ⟨by kernel_rfl, flat3, by unfold FlatFs; kernel_rfl⟩⟩⟩)
/-- the values that BoundPoints returns, in one form -/
def ptA (m : Bool) (f : V3 → Int) : List V3 → Int
  | [] => 0
  | x :: r => if m then mxF f x r else mnF f x r
def ptB : List V3 → Bool
  | [] => false
  | _ :: _ => true
theorem pts_all {xs : List V3} {w w' : World} {e : Ending} (h : PtsOut xs w e w') :
    e = .returned (.tuple #[box (ptA false cx xs) (ptA false cy xs) (ptA false cz xs) (ptA true cx xs) (ptA true cy xs) (ptA true cz xs), .bool (ptB xs)]) ∧ Below w.heap.size w w' := by
  cases xs <;> exact h
set_option maxHeartbeats 4000000 in
theorem walk (w : World) (a0 : Option Addr) (c0 : Nat) (x0 : List V3) (r0 : RowC 3 vg w w.heap.size a0 x0) (m0 : x0.length ≤ maxLen) :
    Calls Try.prog 5 #[.slice a0 x0.length c0] w fun e w' => e = .returned (.bool true) ∧ Below w.heap.size w w' := by
  have R0 := r0
  clear r0
  obtain ⟨n, hn⟩ : ∃ n, n = x0.length := ⟨_, rfl⟩
  have HN := Lib.hid hn
  obtain ⟨q0, hq0⟩ : ∃ q, q = ptA false cx x0 := ⟨_, rfl⟩
  obtain ⟨q1, hq1⟩ : ∃ q, q = ptA false cy x0 := ⟨_, rfl⟩
  obtain ⟨q2, hq2⟩ : ∃ q, q = ptA false cz x0 := ⟨_, rfl⟩
  obtain ⟨q3, hq3⟩ : ∃ q, q = ptA true cx x0 := ⟨_, rfl⟩
  obtain ⟨q4, hq4⟩ : ∃ q, q = ptA true cy x0 := ⟨_, rfl⟩
  obtain ⟨q5, hq5⟩ : ∃ q, q = ptA true cz x0 := ⟨_, rfl⟩
  obtain ⟨b, hb⟩ : ∃ b, b = ptB x0 := ⟨_, rfl⟩
  have HO : ∀ w e w', PtsOut x0 w e w' → e = .returned (.tuple #[box q0 q1 q2 q3 q4 q5, .bool b]) ∧ Below w.heap.size w w' := fun w e w' h => by
    rw [hq0, hq1, hq2, hq3, hq4, hq5, hb]; exact pts_all h
  have HTV : ∀ (A : Option Addr) (c : Nat) (w : World), RowC 3 vg w w.heap.size A x0 → n ≤ 1048576 → Calls Try.prog 22 #[.slice A n c] w fun e w' => e = .returned (.slice (some ⟨w.heap.size, 0, none⟩) n n) ∧ Below w.heap.size w w' ∧ RowC 3 vg w' w'.heap.size (some ⟨w.heap.size, 0, none⟩) x0 := fun A c w h hl => by
    have e := HN.out; subst e; exact toVecS_any A c x0 w h (by omega)
  have HSB : ∀ (A : Option Addr) (c : Nat) (w : World), RowC 3 vg w w.heap.size A x0 → n ≤ 1048576 → Calls Try.prog 21 #[.slice A n c] w fun e w' => e = .returned (.tuple #[box q0 q1 q2 q3 q4 q5, .bool b]) ∧ Below w.heap.size w w' := fun A c w h hl => by
    have e := HN.out; subst e; exact (sBoundPoints_any A c x0 w h (by omega)).mono (HO w)
  have HIB : ∀ (A : Option Addr) (w : World), RowC 3 vg w w.heap.size A x0 → n ≤ 1048576 → Calls Try.prog 12 #[.slice A n n] w fun e w' => e = .returned (.tuple #[box q0 q1 q2 q3 q4 q5, .bool b]) ∧ Below w.heap.size w w' := fun A w h hl => by
    have e := HN.out; subst e; exact (boundPoints_any A _ x0 w h (by omega) (Nat.le_refl _)).mono (HO w)
  have HEQ : ∀ (A A' : Option Addr) (c c' : Nat) (w : World), RowC 3 vg w w.heap.size A x0 → RowC 3 vg w w.heap.size A' x0 → n ≤ 1048576 → Calls Try.prog 24 #[.slice A n c, .slice A' n c'] w fun e w' => e = .returned (.bool true) ∧ Below w.heap.size w w' := fun A A' c c' w h h' hl => by
    have e := HN.out; subst e; exact eqVecS_same A A' c c' x0 w h h' (by omega)
  rw [← hn] at m0 ⊢
  clear hn HO HN hb hq0 hq1 hq2 hq3 hq4 hq5
  by_cases hl : n ≤ 1048576
  · have hl' : (n : Int) ≤ 1048576 := by omega
    go_enter Try.func5, Try.ntmps5
    go_wp2_with fail
    refine (szVecS_yes _ _ _ _ _ hl' (by omega)).mono ?_
    rintro e w' ⟨rfl, rfl⟩
    have hd : ¬ ((1048576 : Int) - (n : Int) < 0) := by omega
    go_wp2_with fail
    refine (HTV _ _ _ R0 hl).mono ?_
    rintro e w1 ⟨rfl, hb1, R1⟩
    have HW : Held w w1 [] := (Held.nil w).later hb1
    have R0 := R0.later hb1
    clear hb1
    go_wp2_with fail
    refine (HSB _ _ _ R1 hl).mono ?_
    rintro e w2 ⟨rfl, hb2⟩
    have HT := (HW.later hb2).new #[.int .i64 q0, .int .i64 q1, .int .i64 q2, .int .i64 q3, .int .i64 q4, .int .i64 q5] 26
    have R0 := ((R0.later hb2).alloc (Nat.le_refl _) (.cells #[.int .i64 q0, .int .i64 q1, .int .i64 q2, .int .i64 q3, .int .i64 q4, .int .i64 q5] 26)).more (B' := (w2.alloc (.cells #[.int .i64 q0, .int .i64 q1, .int .i64 q2, .int .i64 q3, .int .i64 q4, .int .i64 q5] 26)).heap.size) (by simp)
    clear hb2 HW R1
    go_wp2_with fail
    refine (HTV _ _ _ R0 hl).mono ?_
    rintro e w3 ⟨rfl, hb3, R1⟩
    rw [World.size_alloc] at R1
    have R0 := R0.later hb3
    have HT := HT.later hb3
    clear hb3
    go_wp2_with fail
    refine (HIB _ _ R1 hl).mono ?_
    rintro e w4 ⟨rfl, hb4⟩
    have R0 := ((R0.later hb4).alloc (Nat.le_refl _) (.cells #[.int .i64 q0, .int .i64 q1, .int .i64 q2, .int .i64 q3, .int .i64 q4, .int .i64 q5] 26)).more (B' := (w4.alloc (.cells #[.int .i64 q0, .int .i64 q1, .int .i64 q2, .int .i64 q3, .int .i64 q4, .int .i64 q5] 26)).heap.size) (by simp)
    have R1 := ((R1.later hb4).alloc (Nat.le_refl _) (.cells #[.int .i64 q0, .int .i64 q1, .int .i64 q2, .int .i64 q3, .int .i64 q4, .int .i64 q5] 26)).more (B' := (w4.alloc (.cells #[.int .i64 q0, .int .i64 q1, .int .i64 q2, .int .i64 q3, .int .i64 q4, .int .i64 q5] 26)).heap.size) (by simp)
    have HT := (HT.later hb4).new #[.int .i64 q0, .int .i64 q1, .int .i64 q2, .int .i64 q3, .int .i64 q4, .int .i64 q5] 26
    clear hb4
    have c0 := (HT.box 0).c 0
    have c1 := (HT.box 0).c 1
    have c2 := (HT.box 0).c 2
    have c3 := (HT.box 0).c 3
    have c4 := (HT.box 0).c 4
    have c5 := (HT.box 0).c 5
    have d0 := (HT.box 1).c 0
    have d1 := (HT.box 1).c 1
    have d2 := (HT.box 1).c 2
    have d3 := (HT.box 1).c 3
    have d4 := (HT.box 1).c 4
    have d5 := (HT.box 1).c 5
    go_wp2_with fail
    refine (eqBox_same _ _ _ _ _ _ _).mono ?_
    rintro e w5 ⟨rfl, hb5⟩
    have R0 := R0.later hb5
    have R1 := R1.later hb5
    have HT := HT.later hb5
    clear hb5 c0 d0 c1 d1 c2 d2 c3 d3 c4 d4 c5 d5
    cases b
    all_goals
      go_wp2_with fail
      refine (HTV _ _ _ R0 hl).mono ?_
      rintro e w6 ⟨rfl, hb6, R2⟩
      have R1 := R1.later hb6
      have HT := HT.later hb6
      clear hb6 R0
      go_wp2_with fail
      refine (HEQ _ _ _ _ _ R1 R2 hl).mono ?_
      rintro e w7 ⟨rfl, hb7⟩
      have HT := HT.later hb7
      clear hb7 R1 R2
      go_wp2_with fail
      go_ret
      exact ⟨rfl, HT.below⟩
  · have hl' : (1048576 : Int) < (n : Int) := by omega
    go_enter Try.func5, Try.ntmps5
    go_wp2_with fail
    refine (szVecS_no _ _ _ _ _ hl' (by omega) m0).mono ?_
    rintro e w' ⟨rfl, rfl⟩
    go_wp2_with fail
    go_ret
    exact ⟨rfl, Below.refl _ _⟩

set_option maxRecDepth 100000 in
theorem lifted (os : Os) (started : os.Started) (H : Type) (enc : TypeId × Value → H) :
    ReturnsInHanded {} Try.checked os 5 .any (Rows.fnExactBoundPointsSpec.pre6 enc Try.prog Try.f5 Rows.fnExactBoundPointsRow.domain false) (Rows.fnExactBoundPointsSpec.post enc Try.prog Try.f5 false true false false) := by
  refine returnsInHanded_of_change (C := Try.checked) own started (by kernel_rfl) Try.func5
    (ChangeSpec.witness6 (enc := enc) (C := Try.checked) false ⟨#[], #[.slice none 0 0], []⟩ 8 (by kernel_rfl) (by kernel_rfl) (by kernel_rfl) (by kernel_rfl)) ?_
  intro W base args ds gs before hval0 hW hcnd _
  have hval : ∀ (j : Nat) t v, Try.f5.params[j]? = some t → args[j]? = some v → Value.okWide Try.prog W .any base t v := hval0
  have hW' := hW
  obtain ⟨p, q, hA0, hV, rfl, hfz, hnd⟩ := hW
  have hA : DataW.TrodAll enc Try.prog W 0 (fun _ => true) true Try.f5.params.toList args.toList ds p := hA0
  rw [Try.params5] at hA hval
  obtain ⟨v0, vs0, d0, ds0, p0, q0, hargs, rfl, rfl, h0, r1000⟩ := trodAll_cons hA
  obtain ⟨rfl, rfl, rfl⟩ := trodAll_nil r1000
  obtain rfl : args = #[v0] := by cases args; simp_all
  obtain ⟨rfl, rfl⟩ := trodVars_none hV
  obtain ⟨a0, len0, cap0, rfl⟩ := okWide_slice Try.underlying44 (hval 0 44 v0 rfl rfl)
  have k0 := h0
  have lt0 : ∀ x ∈ p0, x.block < W.heap.size := by obtain ⟨m, hm⟩ := k0; exact DataW.trod_lt m _ _ _ hm
  obtain ⟨x0, rfl, r0, m0⟩ := rows_of_flat v3 vg vg_v3 Try.underlying44 (by kernel_rfl) flat38_ (by omega) h0
  clear hA0
  refine (walk W a0 cap0 x0 r0 m0).mono fun e W' ⟨he, bel⟩ => ?_
  subst he
  exact ⟨_, rfl, _, _, _, [], _, [], hW', trodAll_mk1 (shut_bool Try.underlying4 _), (trodAll_cons_mk (Below.trod laidOut (by kernel_rfl) (of_decide_eq_true (by kernel_rfl)) k0 bel lt0) trodAll_mk0), rfl, bel.frame _, fun h => by cases h⟩

theorem proved : Rows.FnExactBoundPointsSaid :=
  OpenClaim.holds_of_wide 5 Try.f5 rfl rfl rfl rfl rfl rfl rfl ⟨rfl, rfl, rfl, rfl, rfl⟩ rfl rfl rfl rfl rfl (by kernel_rfl) Try.func5 (by kernel_rfl)
    (of_decide_eq_true (by kernel_rfl)) (by unfold Func.isWrapper; first | (rw [if_pos (by decide +kernel)]; kernel_rfl) | (rw [if_neg (by decide +kernel)]; exact ⟨rfl, rfl⟩))
    (fun os started H enc _ => lifted os started H enc)
#print axioms proved
end Go.Proofs.Ytjnebohcffeneaa.fnExactBoundPoints
