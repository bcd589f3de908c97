/- Contracts of EvalSubPatch: the program and its model. -/
import Derived.Test.YtjflkapdnnecjaaProg
import Derived.Test.YtjflkapdnnecjaaInts
import Derived.Test.YtjflkapdnnecjaaVbox
import Derived.Test.YtjflkapdnnecjaaVec
import Derived.Test.YtjflkapdnnecjaaHeld
import Derived.Test.YtjflkapdnnecjaaArr
import Derived.Test.YtjflkapdnnecjaaTr
import Derived.Test.YtjflkapdnnecjaaMem
import Derived.Test.YtjflkapdnnecjaaFlat
import Derived.Test.YtjflkapdnnecjaaRowC
import Derived.Test.YtjflkapdnnecjaaPat
import Derived.Test.YtjflkapdnnecjaaGrid
import Derived.Test.YtjflkapdnnecjaaPut
import Derived.Test.YtjflkapdnnecjaaPVal
import Derived.Test.YtjflkapdnnecjaaPEv
import Derived.Test.YtjflkapdnnecjaaPEs
import Derived.Test.YtjflkapdnnecjaaSub
import Derived.WalkKit
import Derived.WalkSpells
import Derived.WalkLawsBesides
import Derived.Lib.Hide
import Derived.Deep.RegionHeld3
import Derived.Deep.QuietTactic
import Derived.BigQuiet
import Derived.Handy
import Derived.Deep.DeepCutAuto
namespace Go.Proofs.Ytjflkapdnnecjaa
open Go.RowKit

/-- the arguments of EvalSubPatch are in range -/
def sGood (u v m i j n : Int) : Prop := okS u v m = true ∧ (1 ≤ n ∧ m * n ≤ 64) ∧ (0 ≤ i ∧ i ≤ n) ∧ 0 ≤ j ∧ j ≤ n
/-- a vector and whether there is one -/
def VecB (x y z : Int) (b : Bool) (w : World) (e : Ending) (w' : World) : Prop := e = .returned (.tuple #[vec x y z, .bool b]) ∧ Below w.heap.size w w'
theorem okS_pow {u v m : Int} (h : okS u v m = true) : m = 1 ∨ m = 2 ∨ m = 4 ∨ m = 8 ∨ m = 16 ∨ m = 32 ∨ m = 64 := ((okS_iff u v m).1 h).1
theorem okS_bd {u v m : Int} (h : okS u v m = true) : (0 ≤ u ∧ u ≤ 64) ∧ (0 ≤ v ∧ v ≤ 64) ∧ 1 ≤ m ∧ m ≤ 64 := by
  have := (okS_iff u v m).1 h
  omega
theorem quo_iff {u v m : Int} (h : okS u v m = true) (n : Int) : decide (wrap64 ((64 : Int).tdiv m) < n) = decide (64 < m * n) := by
  rw [Bool.eq_iff_iff, decide_eq_true_eq, decide_eq_true_eq]
  have t1 : wrap64 ((64 : Int).tdiv 1) = 64 := by decide +kernel
  have t2 : wrap64 ((64 : Int).tdiv 2) = 32 := by decide +kernel
  have t3 : wrap64 ((64 : Int).tdiv 4) = 16 := by decide +kernel
  have t4 : wrap64 ((64 : Int).tdiv 8) = 8 := by decide +kernel
  have t5 : wrap64 ((64 : Int).tdiv 16) = 4 := by decide +kernel
  have t6 : wrap64 ((64 : Int).tdiv 32) = 2 := by decide +kernel
  have t7 : wrap64 ((64 : Int).tdiv 64) = 1 := by decide +kernel
  rcases okS_pow h with rfl | rfl | rfl | rfl | rfl | rfl | rfl
  · rw [t1]; omega
  · rw [t2]; omega
  · rw [t3]; omega
  · rw [t4]; omega
  · rw [t5]; omega
  · rw [t6]; omega
  · rw [t7]; omega
theorem n_le {u v m n : Int} (h : okS u v m = true) (hn : 1 ≤ n) (hm : m * n ≤ 64) : n ≤ 64 := by
  rcases okS_pow h with rfl | rfl | rfl | rfl | rfl | rfl | rfl <;> omega
theorem sg_wraps {u v m i j n : Int} (h : sGood u v m i j n) : IntKind.i64.wrap (u * n) = u * n ∧ IntKind.i64.wrap (u * n + i) = u * n + i ∧ IntKind.i64.wrap (v * n) = v * n ∧ IntKind.i64.wrap (v * n + j) = v * n + j ∧ IntKind.i64.wrap (m * n) = m * n := by
  obtain ⟨h0, ⟨h1, h2⟩, h3, h4⟩ := h
  have hn := n_le h0 h1 h2
  obtain ⟨hu, hv, hm⟩ := okS_bd h0
  have x1 := mul_bd (a := u) (b := n) (m := 64) (n := 64) (by omega) (by omega)
  have x2 := mul_bd (a := v) (b := n) (m := 64) (n := 64) (by omega) (by omega)
  have x3 := mul_bd (a := m) (b := n) (m := 64) (n := 64) (by omega) (by omega)
  exact ⟨wrap_in (by omega), wrap_in (by omega), wrap_in (by omega), wrap_in (by omega), wrap_in (by omega)⟩

set_option maxHeartbeats 4000000 in
theorem evalSub_no (a0 a1 a2 a3 a4 a5 a6 a7 a8 x y z u v m i j n : Int) (w : World) (hn : ¬ sGood u v m i j n) :
    Calls Try.prog 15 #[tr a0 a1 a2 a3 a4 a5 a6 a7 a8 x y z, vec u v m, .int .i64 i, .int .i64 j, .int .i64 n] w (VecB 0 0 0 false w) := by
  have HT : Held w (((w.alloc (.cells #[.int .i64 a0, .int .i64 a1, .int .i64 a2, .int .i64 a3, .int .i64 a4, .int .i64 a5, .int .i64 a6, .int .i64 a7, .int .i64 a8, .int .i64 x, .int .i64 y, .int .i64 z] 27)).alloc (.cells #[.int .i64 u, .int .i64 v, .int .i64 m] 33)).alloc (.cells #[.int .i64 0, .int .i64 0, .int .i64 0] 24)) [(w.heap.size + 2, [.int .i64 0, .int .i64 0, .int .i64 0]), (w.heap.size + 1, [.int .i64 u, .int .i64 v, .int .i64 m]), (w.heap.size, [.int .i64 a0, .int .i64 a1, .int .i64 a2, .int .i64 a3, .int .i64 a4, .int .i64 a5, .int .i64 a6, .int .i64 a7, .int .i64 a8, .int .i64 x, .int .i64 y, .int .i64 z])] := by
    have h := (((Held.nil w).new #[.int .i64 a0, .int .i64 a1, .int .i64 a2, .int .i64 a3, .int .i64 a4, .int .i64 a5, .int .i64 a6, .int .i64 a7, .int .i64 a8, .int .i64 x, .int .i64 y, .int .i64 z] 27).new #[.int .i64 u, .int .i64 v, .int .i64 m] 33).new #[.int .i64 0, .int .i64 0, .int .i64 0] 24
    simpa only [World.size_alloc] using h
  have HN := Lib.hid hn
  clear hn
  go_enter Try.func15, Try.ntmps15
  go_wp2_with fail
  refine (isValidSub_any _ _ _ _).mono ?_
  rintro e w1 ⟨rfl, hb1⟩
  have HT := HT.later hb1
  rcases hk : okS u v m with _ | _
  · clear HN hk
    have r0 := (HT.box 0).c 0
    have r1 := (HT.box 0).c 1
    have r2 := (HT.box 0).c 2
    have g0 := (HT.box 0).f 0
    have g1 := (HT.box 0).f 1
    have g2 := (HT.box 0).f 2
    have HW := HT.below
    clear HT
    clear hb1
    go_wp2_with fail
    exact bodyPost_ret (v := .tuple #[vec 0 0 0, .bool false]) (by simp [results, Try.results15, go_sem, r0, r1, r2]) rfl ⟨rfl, bset3 HW (by omega)⟩

  have HK := Lib.hid hk
  clear hb1
  by_cases h1 : n < 1
  · have e1 : decide (n < 1) = true := decide_eq_true h1
    clear h1 hk HN HK
    have r0 := (HT.box 0).c 0
    have r1 := (HT.box 0).c 1
    have r2 := (HT.box 0).c 2
    have g0 := (HT.box 0).f 0
    have g1 := (HT.box 0).f 1
    have g2 := (HT.box 0).f 2
    have HW := HT.below
    clear HT
    go_wp2_with fail
    exact bodyPost_ret (v := .tuple #[vec 0 0 0, .bool false]) (by simp [results, Try.results15, go_sem, r0, r1, r2]) rfl ⟨rfl, bset3 HW (by omega)⟩

  have e1 : decide (n < 1) = false := decide_eq_false h1
  have hq := quo_iff hk n
  have hm0 : m ≠ 0 := by have := okS_bd hk; omega
  have c0 := (HT.box 1).c 0
  have c1 := (HT.box 1).c 1
  have c2 := (HT.box 1).c 2
  by_cases h2 : 64 < m * n
  · rw [decide_eq_true h2] at hq
    clear h1 h2 hk HN HK
    have r0 := (HT.box 0).c 0
    have r1 := (HT.box 0).c 1
    have r2 := (HT.box 0).c 2
    have g0 := (HT.box 0).f 0
    have g1 := (HT.box 0).f 1
    have g2 := (HT.box 0).f 2
    have HW := HT.below
    clear HT
    go_wp2_with fail
    exact bodyPost_ret (v := .tuple #[vec 0 0 0, .bool false]) (by simp [results, Try.results15, go_sem, r0, r1, r2]) rfl ⟨rfl, bset3 HW (by omega)⟩

  rw [decide_eq_false h2] at hq
  have HB := Lib.hid (And.intro h1 h2)
  clear h1 h2 hk
  by_cases h3 : 0 ≤ i ∧ i ≤ n
  · have H3 := Lib.hid h3
    clear h3
    by_cases h4 : 0 ≤ j ∧ j ≤ n
    · exact absurd (show sGood u v m i j n from ⟨HK.out, ⟨by have := HB.out.1; omega, by have := HB.out.2; omega⟩, H3.out, h4⟩) HN.out
    · have H4 := Lib.hid h4
      clear h4
      go_wp2_with fail
      refine (gridIx_yes _ _ _ H3.out.1 H3.out.2).mono ?_
      rintro e w' ⟨rfl, rfl⟩
      go_wp2_with fail
      refine (gridIx_no _ _ _ H4.out).mono ?_
      rintro e w' ⟨rfl, rfl⟩
      clear e1 hq hm0 c0 c1 c2
      have r0 := (HT.box 0).c 0
      have r1 := (HT.box 0).c 1
      have r2 := (HT.box 0).c 2
      have g0 := (HT.box 0).f 0
      have g1 := (HT.box 0).f 1
      have g2 := (HT.box 0).f 2
      have HW := HT.below
      clear HT
      go_wp2_with fail
      exact bodyPost_ret (v := .tuple #[vec 0 0 0, .bool false]) (by simp [results, Try.results15, go_sem, r0, r1, r2]) rfl ⟨rfl, bset3 HW (by omega)⟩

  · have H3 := Lib.hid h3
    clear h3
    go_wp2_with fail
    refine (gridIx_no _ _ _ H3.out).mono ?_
    rintro e w' ⟨rfl, rfl⟩
    clear e1 hq hm0 c0 c1 c2
    have r0 := (HT.box 0).c 0
    have r1 := (HT.box 0).c 1
    have r2 := (HT.box 0).c 2
    have g0 := (HT.box 0).f 0
    have g1 := (HT.box 0).f 1
    have g2 := (HT.box 0).f 2
    have HW := HT.below
    clear HT
    go_wp2_with fail
    exact bodyPost_ret (v := .tuple #[vec 0 0 0, .bool false]) (by simp [results, Try.results15, go_sem, r0, r1, r2]) rfl ⟨rfl, bset3 HW (by omega)⟩

set_option maxHeartbeats 4000000 in
theorem evalSub_yes (a0 a1 a2 a3 a4 a5 a6 a7 a8 x y z u v m i j n : Int) (w : World) (hn : sGood u v m i j n) :
    Calls Try.prog 15 #[tr a0 a1 a2 a3 a4 a5 a6 a7 a8 x y z, vec u v m, .int .i64 i, .int .i64 j, .int .i64 n] w (VecB (evP (cc a0) (cc a3) (cc a6) (cc x) (u * n + i) (v * n + j) (m * n)) (evP (cc a1) (cc a4) (cc a7) (cc y) (u * n + i) (v * n + j) (m * n)) (evP (cc a2) (cc a5) (cc a8) (cc z) (u * n + i) (v * n + j) (m * n)) true w) := by
  have HT : Held w (((w.alloc (.cells #[.int .i64 a0, .int .i64 a1, .int .i64 a2, .int .i64 a3, .int .i64 a4, .int .i64 a5, .int .i64 a6, .int .i64 a7, .int .i64 a8, .int .i64 x, .int .i64 y, .int .i64 z] 27)).alloc (.cells #[.int .i64 u, .int .i64 v, .int .i64 m] 33)).alloc (.cells #[.int .i64 0, .int .i64 0, .int .i64 0] 24)) [(w.heap.size + 2, [.int .i64 0, .int .i64 0, .int .i64 0]), (w.heap.size + 1, [.int .i64 u, .int .i64 v, .int .i64 m]), (w.heap.size, [.int .i64 a0, .int .i64 a1, .int .i64 a2, .int .i64 a3, .int .i64 a4, .int .i64 a5, .int .i64 a6, .int .i64 a7, .int .i64 a8, .int .i64 x, .int .i64 y, .int .i64 z])] := by
    have h := (((Held.nil w).new #[.int .i64 a0, .int .i64 a1, .int .i64 a2, .int .i64 a3, .int .i64 a4, .int .i64 a5, .int .i64 a6, .int .i64 a7, .int .i64 a8, .int .i64 x, .int .i64 y, .int .i64 z] 27).new #[.int .i64 u, .int .i64 v, .int .i64 m] 33).new #[.int .i64 0, .int .i64 0, .int .i64 0] 24
    simpa only [World.size_alloc] using h
  obtain ⟨q0, e0⟩ : ∃ q, q = evP (cc a0) (cc a3) (cc a6) (cc x) (u * n + i) (v * n + j) (m * n) := ⟨_, rfl⟩
  obtain ⟨q1, e1⟩ : ∃ q, q = evP (cc a1) (cc a4) (cc a7) (cc y) (u * n + i) (v * n + j) (m * n) := ⟨_, rfl⟩
  obtain ⟨q2, e2⟩ : ∃ q, q = evP (cc a2) (cc a5) (cc a8) (cc z) (u * n + i) (v * n + j) (m * n) := ⟨_, rfl⟩
  have HEV : ∀ w : World, Calls Try.prog 16 #[tr a0 a1 a2 a3 a4 a5 a6 a7 a8 x y z, .int .i64 (u * n + i), .int .i64 (v * n + j), .int .i64 (m * n)] w (VecOut q0 q1 q2 w) := fun w => by rw [e0, e1, e2]; exact evalPatch_any a0 a1 a2 a3 a4 a5 a6 a7 a8 x y z (u * n + i) (v * n + j) (m * n) w
  rw [← e0, ← e1, ← e2]
  clear e0 e1 e2
  have HN := Lib.hid hn
  have hk := hn.1
  have e1 : decide (n < 1) = false := decide_eq_false (by have := hn.2.1.1; omega)
  have hq := quo_iff hk n
  rw [decide_eq_false (show ¬ 64 < m * n by have := hn.2.1.2; omega)] at hq
  have hm0 : m ≠ 0 := by have := okS_bd hk; omega
  have HK := Lib.hid hk
  obtain ⟨w0, w1', w2', w3', w4'⟩ := sg_wraps hn
  clear hn hk
  go_enter Try.func15, Try.ntmps15
  go_wp2_with fail
  refine (isValidSub_any _ _ _ _).mono ?_
  rintro e w1 ⟨rfl, hb1⟩
  have HT := HT.later hb1
  clear hb1
  rw [HK.out]
  have c0 := (HT.box 1).c 0
  have c1 := (HT.box 1).c 1
  have c2 := (HT.box 1).c 2
  go_wp2_with fail
  refine (gridIx_yes _ _ _ HN.out.2.2.1.1 HN.out.2.2.1.2).mono ?_
  rintro e w' ⟨rfl, rfl⟩
  go_wp2_with fail
  refine (gridIx_yes _ _ _ HN.out.2.2.2.1 HN.out.2.2.2.2).mono ?_
  rintro e w' ⟨rfl, rfl⟩
  have d0 := (HT.box 2).c 0
  have d1 := (HT.box 2).c 1
  have d2 := (HT.box 2).c 2
  have d3 := (HT.box 2).c 3
  have d4 := (HT.box 2).c 4
  have d5 := (HT.box 2).c 5
  have d6 := (HT.box 2).c 6
  have d7 := (HT.box 2).c 7
  have d8 := (HT.box 2).c 8
  have d9 := (HT.box 2).c 9
  have d10 := (HT.box 2).c 10
  have d11 := (HT.box 2).c 11
  clear e1 hq hm0
  go_wp2_with fail
  refine (HEV _).mono ?_
  rintro e w2 ⟨rfl, hb2⟩
  have HT := HT.later hb2
  clear hb2 HEV c0 c1 c2 d0 d1 d2 d3 d4 d5 d6 d7 d8 d9 d10 d11
  have r0 := (HT.box 0).c 0
  have r1 := (HT.box 0).c 1
  have r2 := (HT.box 0).c 2
  have g0 := (HT.box 0).f 0
  have g1 := (HT.box 0).f 1
  have g2 := (HT.box 0).f 2
  have HW := HT.below
  clear HT
  go_wp2_with fail
  exact bodyPost_ret (v := .tuple #[vec q0 q1 q2, .bool true]) (by simp [results, Try.results15, go_sem, r0, r1, r2]) rfl ⟨rfl, bset3 HW (by omega)⟩

set_option maxHeartbeats 4000000 in
theorem sEvalSub_no (a0 a1 a2 a3 a4 a5 a6 a7 a8 x y z u v m i j n : Int) (w : World) (hn : ¬ sGood u v m i j n) :
    Calls Try.prog 31 #[tr a0 a1 a2 a3 a4 a5 a6 a7 a8 x y z, vec u v m, .int .i64 i, .int .i64 j, .int .i64 n] w (VecB 0 0 0 false w) := by
  have HT : Held w (((w.alloc (.cells #[.int .i64 a0, .int .i64 a1, .int .i64 a2, .int .i64 a3, .int .i64 a4, .int .i64 a5, .int .i64 a6, .int .i64 a7, .int .i64 a8, .int .i64 x, .int .i64 y, .int .i64 z] 27)).alloc (.cells #[.int .i64 u, .int .i64 v, .int .i64 m] 33)).alloc (.cells #[.int .i64 0, .int .i64 0, .int .i64 0] 24)) [(w.heap.size + 2, [.int .i64 0, .int .i64 0, .int .i64 0]), (w.heap.size + 1, [.int .i64 u, .int .i64 v, .int .i64 m]), (w.heap.size, [.int .i64 a0, .int .i64 a1, .int .i64 a2, .int .i64 a3, .int .i64 a4, .int .i64 a5, .int .i64 a6, .int .i64 a7, .int .i64 a8, .int .i64 x, .int .i64 y, .int .i64 z])] := by
    have h := (((Held.nil w).new #[.int .i64 a0, .int .i64 a1, .int .i64 a2, .int .i64 a3, .int .i64 a4, .int .i64 a5, .int .i64 a6, .int .i64 a7, .int .i64 a8, .int .i64 x, .int .i64 y, .int .i64 z] 27).new #[.int .i64 u, .int .i64 v, .int .i64 m] 33).new #[.int .i64 0, .int .i64 0, .int .i64 0] 24
    simpa only [World.size_alloc] using h
  have HN := Lib.hid hn
  clear hn
  go_enter Try.func31, Try.ntmps31
  go_wp2_with fail
  refine (sIsValidSub_any _ _ _ _).mono ?_
  rintro e w1 ⟨rfl, hb1⟩
  have HT := HT.later hb1
  rcases hk : okS u v m with _ | _
  · clear HN hk
    have r0 := (HT.box 0).c 0
    have r1 := (HT.box 0).c 1
    have r2 := (HT.box 0).c 2
    have g0 := (HT.box 0).f 0
    have g1 := (HT.box 0).f 1
    have g2 := (HT.box 0).f 2
    have HW := HT.below
    clear HT
    clear hb1
    go_wp2_with fail
    exact bodyPost_ret (v := .tuple #[vec 0 0 0, .bool false]) (by simp [results, Try.results31, go_sem, r0, r1, r2]) rfl ⟨rfl, bset3 HW (by omega)⟩

  have HK := Lib.hid hk
  clear hb1
  by_cases h1' : ¬ (1 ≤ n ∧ n ≤ 64)
  · have H1 := Lib.hid h1'
    clear h1' hk HN HK
    go_wp2_with fail
    refine (inV_no _ _ _ _ H1.out).mono ?_
    rintro e w' ⟨rfl, rfl⟩
    have r0 := (HT.box 0).c 0
    have r1 := (HT.box 0).c 1
    have r2 := (HT.box 0).c 2
    have g0 := (HT.box 0).f 0
    have g1 := (HT.box 0).f 1
    have g2 := (HT.box 0).f 2
    have HW := HT.below
    clear HT
    go_wp2_with fail
    exact bodyPost_ret (v := .tuple #[vec 0 0 0, .bool false]) (by simp [results, Try.results31, go_sem, r0, r1, r2]) rfl ⟨rfl, bset3 HW (by omega)⟩

  have h1 := Decidable.not_not.1 h1'
  clear h1'
  have H1 := Lib.hid h1
  have w4' : IntKind.i64.wrap (m * n) = m * n := wrap_in (by have := okS_bd hk; have := mul_bd (a := m) (b := n) (m := 64) (n := 64) (by omega) (by omega); omega)
  have c0 := (HT.box 1).c 0
  have c1 := (HT.box 1).c 1
  have c2 := (HT.box 1).c 2
  by_cases h2 : 64 < m * n
  · have e2 : decide (64 < m * n) = true := decide_eq_true h2
    clear h1 h2 hk HN HK
    go_wp2_with fail
    refine (inV_yes _ _ _ _ H1.out.1 H1.out.2).mono ?_
    rintro e w' ⟨rfl, rfl⟩
    have r0 := (HT.box 0).c 0
    have r1 := (HT.box 0).c 1
    have r2 := (HT.box 0).c 2
    have g0 := (HT.box 0).f 0
    have g1 := (HT.box 0).f 1
    have g2 := (HT.box 0).f 2
    have HW := HT.below
    clear HT
    go_wp2_with fail
    exact bodyPost_ret (v := .tuple #[vec 0 0 0, .bool false]) (by simp [results, Try.results31, go_sem, r0, r1, r2]) rfl ⟨rfl, bset3 HW (by omega)⟩

  have e2 : decide (64 < m * n) = false := decide_eq_false h2
  have HB := Lib.hid h2
  clear h1 h2 hk
  by_cases h3 : 0 ≤ i ∧ i ≤ n
  · have H3 := Lib.hid h3
    clear h3
    by_cases h4 : 0 ≤ j ∧ j ≤ n
    · exact absurd (show sGood u v m i j n from ⟨HK.out, ⟨H1.out.1, by have := HB.out; omega⟩, H3.out, h4⟩) HN.out
    · have H4 := Lib.hid h4
      clear h4
      go_wp2_with fail
      refine (inV_yes _ _ _ _ H1.out.1 H1.out.2).mono ?_
      rintro e w' ⟨rfl, rfl⟩
      go_wp2_with fail
      refine (inV_yes _ _ _ _ H3.out.1 H3.out.2).mono ?_
      rintro e w' ⟨rfl, rfl⟩
      go_wp2_with fail
      refine (inV_no _ _ _ _ H4.out).mono ?_
      rintro e w' ⟨rfl, rfl⟩
      clear e2 w4' c0 c1 c2
      have r0 := (HT.box 0).c 0
      have r1 := (HT.box 0).c 1
      have r2 := (HT.box 0).c 2
      have g0 := (HT.box 0).f 0
      have g1 := (HT.box 0).f 1
      have g2 := (HT.box 0).f 2
      have HW := HT.below
      clear HT
      go_wp2_with fail
      exact bodyPost_ret (v := .tuple #[vec 0 0 0, .bool false]) (by simp [results, Try.results31, go_sem, r0, r1, r2]) rfl ⟨rfl, bset3 HW (by omega)⟩

  · have H3 := Lib.hid h3
    clear h3
    go_wp2_with fail
    refine (inV_yes _ _ _ _ H1.out.1 H1.out.2).mono ?_
    rintro e w' ⟨rfl, rfl⟩
    go_wp2_with fail
    refine (inV_no _ _ _ _ H3.out).mono ?_
    rintro e w' ⟨rfl, rfl⟩
    clear e2 w4' c0 c1 c2
    have r0 := (HT.box 0).c 0
    have r1 := (HT.box 0).c 1
    have r2 := (HT.box 0).c 2
    have g0 := (HT.box 0).f 0
    have g1 := (HT.box 0).f 1
    have g2 := (HT.box 0).f 2
    have HW := HT.below
    clear HT
    go_wp2_with fail
    exact bodyPost_ret (v := .tuple #[vec 0 0 0, .bool false]) (by simp [results, Try.results31, go_sem, r0, r1, r2]) rfl ⟨rfl, bset3 HW (by omega)⟩

set_option maxHeartbeats 4000000 in
theorem sEvalSub_yes (a0 a1 a2 a3 a4 a5 a6 a7 a8 x y z u v m i j n : Int) (w : World) (hn : sGood u v m i j n) :
    Calls Try.prog 31 #[tr a0 a1 a2 a3 a4 a5 a6 a7 a8 x y z, vec u v m, .int .i64 i, .int .i64 j, .int .i64 n] w (VecB (evP (cc a0) (cc a3) (cc a6) (cc x) (u * n + i) (v * n + j) (m * n)) (evP (cc a1) (cc a4) (cc a7) (cc y) (u * n + i) (v * n + j) (m * n)) (evP (cc a2) (cc a5) (cc a8) (cc z) (u * n + i) (v * n + j) (m * n)) true w) := by
  have HT : Held w (((w.alloc (.cells #[.int .i64 a0, .int .i64 a1, .int .i64 a2, .int .i64 a3, .int .i64 a4, .int .i64 a5, .int .i64 a6, .int .i64 a7, .int .i64 a8, .int .i64 x, .int .i64 y, .int .i64 z] 27)).alloc (.cells #[.int .i64 u, .int .i64 v, .int .i64 m] 33)).alloc (.cells #[.int .i64 0, .int .i64 0, .int .i64 0] 24)) [(w.heap.size + 2, [.int .i64 0, .int .i64 0, .int .i64 0]), (w.heap.size + 1, [.int .i64 u, .int .i64 v, .int .i64 m]), (w.heap.size, [.int .i64 a0, .int .i64 a1, .int .i64 a2, .int .i64 a3, .int .i64 a4, .int .i64 a5, .int .i64 a6, .int .i64 a7, .int .i64 a8, .int .i64 x, .int .i64 y, .int .i64 z])] := by
    have h := (((Held.nil w).new #[.int .i64 a0, .int .i64 a1, .int .i64 a2, .int .i64 a3, .int .i64 a4, .int .i64 a5, .int .i64 a6, .int .i64 a7, .int .i64 a8, .int .i64 x, .int .i64 y, .int .i64 z] 27).new #[.int .i64 u, .int .i64 v, .int .i64 m] 33).new #[.int .i64 0, .int .i64 0, .int .i64 0] 24
    simpa only [World.size_alloc] using h
  obtain ⟨q0, e0⟩ : ∃ q, q = evP (cc a0) (cc a3) (cc a6) (cc x) (u * n + i) (v * n + j) (m * n) := ⟨_, rfl⟩
  obtain ⟨q1, e1⟩ : ∃ q, q = evP (cc a1) (cc a4) (cc a7) (cc y) (u * n + i) (v * n + j) (m * n) := ⟨_, rfl⟩
  obtain ⟨q2, e2⟩ : ∃ q, q = evP (cc a2) (cc a5) (cc a8) (cc z) (u * n + i) (v * n + j) (m * n) := ⟨_, rfl⟩
  have HEV : ∀ w : World, Calls Try.prog 20 #[tr a0 a1 a2 a3 a4 a5 a6 a7 a8 x y z, .int .i64 (u * n + i), .int .i64 (v * n + j), .int .i64 (m * n)] w (VecOut q0 q1 q2 w) := fun w => by rw [e0, e1, e2]; exact sEvalPatch_any a0 a1 a2 a3 a4 a5 a6 a7 a8 x y z (u * n + i) (v * n + j) (m * n) w
  rw [← e0, ← e1, ← e2]
  clear e0 e1 e2
  have HN := Lib.hid hn
  have e2 : decide (64 < m * n) = false := decide_eq_false (by have := hn.2.1.2; omega)
  have HK := Lib.hid hn.1
  have H1 := Lib.hid (show 1 ≤ n ∧ n ≤ 64 from ⟨hn.2.1.1, n_le hn.1 hn.2.1.1 hn.2.1.2⟩)
  obtain ⟨w0, w1', w2', w3', w4'⟩ := sg_wraps hn
  clear hn
  go_enter Try.func31, Try.ntmps31
  go_wp2_with fail
  refine (sIsValidSub_any _ _ _ _).mono ?_
  rintro e w1 ⟨rfl, hb1⟩
  have HT := HT.later hb1
  clear hb1
  rw [HK.out]
  have c0 := (HT.box 1).c 0
  have c1 := (HT.box 1).c 1
  have c2 := (HT.box 1).c 2
  go_wp2_with fail
  refine (inV_yes _ _ _ _ H1.out.1 H1.out.2).mono ?_
  rintro e w' ⟨rfl, rfl⟩
  go_wp2_with fail
  refine (inV_yes _ _ _ _ HN.out.2.2.1.1 HN.out.2.2.1.2).mono ?_
  rintro e w' ⟨rfl, rfl⟩
  go_wp2_with fail
  refine (inV_yes _ _ _ _ HN.out.2.2.2.1 HN.out.2.2.2.2).mono ?_
  rintro e w' ⟨rfl, rfl⟩
  have d0 := (HT.box 2).c 0
  have d1 := (HT.box 2).c 1
  have d2 := (HT.box 2).c 2
  have d3 := (HT.box 2).c 3
  have d4 := (HT.box 2).c 4
  have d5 := (HT.box 2).c 5
  have d6 := (HT.box 2).c 6
  have d7 := (HT.box 2).c 7
  have d8 := (HT.box 2).c 8
  have d9 := (HT.box 2).c 9
  have d10 := (HT.box 2).c 10
  have d11 := (HT.box 2).c 11
  clear e2
  go_wp2_with fail
  refine (HEV _).mono ?_
  rintro e w2 ⟨rfl, hb2⟩
  have HT := HT.later hb2
  clear hb2 HEV c0 c1 c2 d0 d1 d2 d3 d4 d5 d6 d7 d8 d9 d10 d11
  have r0 := (HT.box 0).c 0
  have r1 := (HT.box 0).c 1
  have r2 := (HT.box 0).c 2
  have g0 := (HT.box 0).f 0
  have g1 := (HT.box 0).f 1
  have g2 := (HT.box 0).f 2
  have HW := HT.below
  clear HT
  go_wp2_with fail
  exact bodyPost_ret (v := .tuple #[vec q0 q1 q2, .bool true]) (by simp [results, Try.results31, go_sem, r0, r1, r2]) rfl ⟨rfl, bset3 HW (by omega)⟩
end Go.Proofs.Ytjflkapdnnecjaa
