/- Contracts of EvalPatch: the program. -/
import Derived.Test.YtolinlcihddkoabProg
import Derived.Test.YtolinlcihddkoabInts
import Derived.Test.YtolinlcihddkoabVbox
import Derived.Test.YtolinlcihddkoabVec
import Derived.Test.YtolinlcihddkoabHeld
import Derived.Test.YtolinlcihddkoabArr
import Derived.Test.YtolinlcihddkoabTr
import Derived.Test.YtolinlcihddkoabMem
import Derived.Test.YtolinlcihddkoabFlat
import Derived.Test.YtolinlcihddkoabRowC
import Derived.Test.YtolinlcihddkoabPat
import Derived.Test.YtolinlcihddkoabPVal
import Derived.Test.YtolinlcihddkoabGrid
import Derived.Test.YtolinlcihddkoabPut
import Derived.WalkKit
import Derived.WalkSpells
import Derived.WalkLawsBesides
import Derived.Lib.Hide
import Derived.Deep.RegionHeld3
import Derived.Deep.QuietTactic
import Derived.BigQuiet
import Derived.Handy
import Derived.Deep.DeepCutAuto
namespace Go.Proofs.Ytolinlcihddkoab
open Go.RowKit

theorem gridIx_yes (i n : Int) (w : World) (h0 : 0 ≤ i) (h1 : i ≤ n) :
    Calls Try.prog 15 #[.int .i64 i, .int .i64 n] w fun e w' => e = .returned (.bool true) ∧ w = w' := by
  go_enter Try.func15, Try.ntmps15
  go_wp2_with fail
  go_ret
  exact ⟨rfl, rfl⟩
theorem gridIx_no (i n : Int) (w : World) (h : ¬ (0 ≤ i ∧ i ≤ n)) :
    Calls Try.prog 15 #[.int .i64 i, .int .i64 n] w fun e w' => e = .returned (.bool false) ∧ w = w' := by
  by_cases h0 : 0 ≤ i
  · have h1 : ¬ i ≤ n := by omega
    clear h
    go_enter Try.func15, Try.ntmps15
    go_wp2_with fail
    go_ret
    exact ⟨rfl, rfl⟩
  · have h1 : decide (0 ≤ i) = false := by simpa using h0
    clear h
    go_enter Try.func15, Try.ntmps15
    go_wp2_with fail
    go_ret
    exact ⟨rfl, rfl⟩

theorem bd_times {k d : Int} (hk : 0 ≤ k ∧ k ≤ 64) (hd : -1000000 ≤ d ∧ d ≤ 1000000) : -64000000 ≤ k * d ∧ k * d ≤ 64000000 := by
  have := mul_bd (a := k) (b := d) (m := 64) (n := 1000000) (by omega) hd
  omega
theorem edge_bd {n k a b : Int} (hn : 1 ≤ n ∧ n ≤ 64) (hk : 0 ≤ k ∧ k ≤ n) (ha : -1000000 ≤ a ∧ a ≤ 1000000) (hb : -1000000 ≤ b ∧ b ≤ 1000000) : -128000000 ≤ (n - k) * a + k * b ∧ (n - k) * a + k * b ≤ 128000000 := by
  have := mean_bd (n := n) hk ha hb
  omega
theorem bd_times2 {k d : Int} (hk : 0 ≤ k ∧ k ≤ 64) (hd : -128000000 ≤ d ∧ d ≤ 128000000) : -8192000000 ≤ k * d ∧ k * d ≤ 8192000000 := by
  have := mul_bd (a := k) (b := d) (m := 64) (n := 128000000) (by omega) hd
  omega

set_option maxRecDepth 100000 in
set_option maxHeartbeats 8000000 in
theorem evalPatch_any (a0 a1 a2 a3 a4 a5 a6 a7 a8 x y z i j n : Int) (w : World) :
    Calls Try.prog 7 #[tr a0 a1 a2 a3 a4 a5 a6 a7 a8 x y z, .int .i64 i, .int .i64 j, .int .i64 n] w (VecOut (evP (cc a0) (cc a3) (cc a6) (cc x) i j n) (evP (cc a1) (cc a4) (cc a7) (cc y) i j n) (evP (cc a2) (cc a5) (cc a8) (cc z) i j n) w) := by
  have HT : Held w ((w.alloc (.cells #[.int .i64 a0, .int .i64 a1, .int .i64 a2, .int .i64 a3, .int .i64 a4, .int .i64 a5, .int .i64 a6, .int .i64 a7, .int .i64 a8, .int .i64 x, .int .i64 y, .int .i64 z] 30)).alloc (.cells #[.int .i64 0, .int .i64 0, .int .i64 0] 27)) [(w.heap.size + 1, [.int .i64 0, .int .i64 0, .int .i64 0]), (w.heap.size, [.int .i64 a0, .int .i64 a1, .int .i64 a2, .int .i64 a3, .int .i64 a4, .int .i64 a5, .int .i64 a6, .int .i64 a7, .int .i64 a8, .int .i64 x, .int .i64 y, .int .i64 z])] := by
    have h := ((Held.nil w).new #[.int .i64 a0, .int .i64 a1, .int .i64 a2, .int .i64 a3, .int .i64 a4, .int .i64 a5, .int .i64 a6, .int .i64 a7, .int .i64 a8, .int .i64 x, .int .i64 y, .int .i64 z] 30).new #[.int .i64 0, .int .i64 0, .int .i64 0] 27
    simpa only [World.size_alloc] using h
  obtain ⟨d0, e0⟩ : ∃ d, d = cc a0 := ⟨_, rfl⟩
  have b0 := cc_bd a0
  have E0 := Lib.hid e0
  rw [← e0] at b0 ⊢
  obtain ⟨d1, e1⟩ : ∃ d, d = cc a1 := ⟨_, rfl⟩
  have b1 := cc_bd a1
  have E1 := Lib.hid e1
  rw [← e1] at b1 ⊢
  obtain ⟨d2, e2⟩ : ∃ d, d = cc a2 := ⟨_, rfl⟩
  have b2 := cc_bd a2
  have E2 := Lib.hid e2
  rw [← e2] at b2 ⊢
  obtain ⟨d3, e3⟩ : ∃ d, d = cc a3 := ⟨_, rfl⟩
  have b3 := cc_bd a3
  have E3 := Lib.hid e3
  rw [← e3] at b3 ⊢
  obtain ⟨d4, e4⟩ : ∃ d, d = cc a4 := ⟨_, rfl⟩
  have b4 := cc_bd a4
  have E4 := Lib.hid e4
  rw [← e4] at b4 ⊢
  obtain ⟨d5, e5⟩ : ∃ d, d = cc a5 := ⟨_, rfl⟩
  have b5 := cc_bd a5
  have E5 := Lib.hid e5
  rw [← e5] at b5 ⊢
  obtain ⟨d6, e6⟩ : ∃ d, d = cc a6 := ⟨_, rfl⟩
  have b6 := cc_bd a6
  have E6 := Lib.hid e6
  rw [← e6] at b6 ⊢
  obtain ⟨d7, e7⟩ : ∃ d, d = cc a7 := ⟨_, rfl⟩
  have b7 := cc_bd a7
  have E7 := Lib.hid e7
  rw [← e7] at b7 ⊢
  obtain ⟨d8, e8⟩ : ∃ d, d = cc a8 := ⟨_, rfl⟩
  have b8 := cc_bd a8
  have E8 := Lib.hid e8
  rw [← e8] at b8 ⊢
  obtain ⟨d9, e9⟩ : ∃ d, d = cc x := ⟨_, rfl⟩
  have b9 := cc_bd x
  have E9 := Lib.hid e9
  rw [← e9] at b9 ⊢
  obtain ⟨d10, e10⟩ : ∃ d, d = cc y := ⟨_, rfl⟩
  have b10 := cc_bd y
  have E10 := Lib.hid e10
  rw [← e10] at b10 ⊢
  obtain ⟨d11, e11⟩ : ∃ d, d = cc z := ⟨_, rfl⟩
  have b11 := cc_bd z
  have E11 := Lib.hid e11
  rw [← e11] at b11 ⊢
  go_enter Try.func7, Try.ntmps7
  go_wp2_with fail
  refine (pclamped_any _ _ _ _ _ _ _ _ _ _ _ _ _).mono ?_
  rintro e w1 ⟨rfl, hb1⟩
  rw [← e0, ← e1, ← e2, ← e3, ← e4, ← e5, ← e6, ← e7, ← e8, ← e9, ← e10, ← e11]
  clear e0 e1 e2 e3 e4 e5 e6 e7 e8 e9 e10 e11 E0 E1 E2 E3 E4 E5 E6 E7 E8 E9 E10 E11
  have hs1 := hb1.size
  simp only [World.size_alloc] at hs1
  have HT := (HT.later hb1).new #[.int .i64 d0, .int .i64 d1, .int .i64 d2, .int .i64 d3, .int .i64 d4, .int .i64 d5, .int .i64 d6, .int .i64 d7, .int .i64 d8, .int .i64 d9, .int .i64 d10, .int .i64 d11] 28
  clear hb1
  have hfd : ∀ w : World, (Instr.field 30 (tr d0 d1 d2 d3 d4 d5 d6 d7 d8 d9 d10 d11) 0).run Try.prog w = .ok (tr d0 d1 d2 d3 d4 d5 d6 d7 d8 d9 d10 d11) w := fun w => by kernel_rfl
  go_upto_region 2 with fail
  clear hfd
  generalize w1.alloc _ = W1 at HT ⊢
  generalize w1.heap.size = k1 at HT hs1 ⊢
  by_cases hn : n < 1
  · have HN := Lib.hid (show ¬ ((1 ≤ n ∧ n ≤ 64) ∧ (0 ≤ i ∧ i ≤ n) ∧ 0 ≤ j ∧ j ≤ n) by omega)
    have hn0 : decide (n < 1) = true := decide_eq_true hn
    have c0 := (HT.box 0).c 0
    have c1 := (HT.box 0).c 1
    have c2 := (HT.box 0).c 2
    have r0 := (HT.box 1).c 0
    have r1 := (HT.box 1).c 1
    have r2 := (HT.box 1).c 2
    have g0 := (HT.box 1).f 0
    have g1 := (HT.box 1).f 1
    have g2 := (HT.box 1).f 2
    have HW := HT.below
    clear HT
    clear b0 b1 b2 b3 b4 b5 b6 b7 b8 b9 b10 b11 hn
    go_wp2_with fail
    exact bodyPost_ret (v := vec d0 d1 d2) (by simp [results, Try.results7, go_sem, r0, r1, r2]) rfl ⟨ret_vec (ev_no HN.out ..).symm (ev_no HN.out ..).symm (ev_no HN.out ..).symm, bset3 HW (by omega)⟩
  by_cases hn' : 64 < n
  · have HN := Lib.hid (show ¬ ((1 ≤ n ∧ n ≤ 64) ∧ (0 ≤ i ∧ i ≤ n) ∧ 0 ≤ j ∧ j ≤ n) by omega)
    have hn0 : decide (n < 1) = false := decide_eq_false hn; have hn1 : decide (64 < n) = true := decide_eq_true hn'
    have c0 := (HT.box 0).c 0
    have c1 := (HT.box 0).c 1
    have c2 := (HT.box 0).c 2
    have r0 := (HT.box 1).c 0
    have r1 := (HT.box 1).c 1
    have r2 := (HT.box 1).c 2
    have g0 := (HT.box 1).f 0
    have g1 := (HT.box 1).f 1
    have g2 := (HT.box 1).f 2
    have HW := HT.below
    clear HT
    clear b0 b1 b2 b3 b4 b5 b6 b7 b8 b9 b10 b11 hn hn'
    go_wp2_with fail
    exact bodyPost_ret (v := vec d0 d1 d2) (by simp [results, Try.results7, go_sem, r0, r1, r2]) rfl ⟨ret_vec (ev_no HN.out ..).symm (ev_no HN.out ..).symm (ev_no HN.out ..).symm, bset3 HW (by omega)⟩
  have hn0 : decide (n < 1) = false := decide_eq_false hn
  have hn1 : decide (64 < n) = false := decide_eq_false hn'
  by_cases hi' : ¬ (0 ≤ i ∧ i ≤ n)
  · have HN := Lib.hid (show ¬ ((1 ≤ n ∧ n ≤ 64) ∧ (0 ≤ i ∧ i ≤ n) ∧ 0 ≤ j ∧ j ≤ n) by omega)
    have HA := Lib.hid hi'
    have c0 := (HT.box 0).c 0
    have c1 := (HT.box 0).c 1
    have c2 := (HT.box 0).c 2
    have r0 := (HT.box 1).c 0
    have r1 := (HT.box 1).c 1
    have r2 := (HT.box 1).c 2
    have g0 := (HT.box 1).f 0
    have g1 := (HT.box 1).f 1
    have g2 := (HT.box 1).f 2
    have HW := HT.below
    clear HT
    clear b0 b1 b2 b3 b4 b5 b6 b7 b8 b9 b10 b11 hi' hn hn'
    go_wp2_with fail
    refine (gridIx_no _ _ _ HA.out).mono ?_
    rintro e w' ⟨rfl, rfl⟩
    go_wp2_with fail
    exact bodyPost_ret (v := vec d0 d1 d2) (by simp [results, Try.results7, go_sem, r0, r1, r2]) rfl ⟨ret_vec (ev_no HN.out ..).symm (ev_no HN.out ..).symm (ev_no HN.out ..).symm, bset3 HW (by omega)⟩
  have hi := Decidable.not_not.1 hi'
  clear hi'
  by_cases hj' : ¬ (0 ≤ j ∧ j ≤ n)
  · have HN := Lib.hid (show ¬ ((1 ≤ n ∧ n ≤ 64) ∧ (0 ≤ i ∧ i ≤ n) ∧ 0 ≤ j ∧ j ≤ n) by omega)
    have HA := Lib.hid hj'; have HB := Lib.hid hi
    have c0 := (HT.box 0).c 0
    have c1 := (HT.box 0).c 1
    have c2 := (HT.box 0).c 2
    have r0 := (HT.box 1).c 0
    have r1 := (HT.box 1).c 1
    have r2 := (HT.box 1).c 2
    have g0 := (HT.box 1).f 0
    have g1 := (HT.box 1).f 1
    have g2 := (HT.box 1).f 2
    have HW := HT.below
    clear HT
    clear b0 b1 b2 b3 b4 b5 b6 b7 b8 b9 b10 b11 hj' hi hn hn'
    go_wp2_with fail
    refine (gridIx_yes _ _ _ HB.out.1 HB.out.2).mono ?_
    rintro e w' ⟨rfl, rfl⟩
    go_wp2_with fail
    refine (gridIx_no _ _ _ HA.out).mono ?_
    rintro e w' ⟨rfl, rfl⟩
    go_wp2_with fail
    exact bodyPost_ret (v := vec d0 d1 d2) (by simp [results, Try.results7, go_sem, r0, r1, r2]) rfl ⟨ret_vec (ev_no HN.out ..).symm (ev_no HN.out ..).symm (ev_no HN.out ..).symm, bset3 HW (by omega)⟩
  have hj := Decidable.not_not.1 hj'
  clear hj'
  have HI : Hid (0 ≤ n - i ∧ n - i ≤ 64) := Lib.hid (by omega)
  have HJ : Hid (0 ≤ i ∧ i ≤ 64) := Lib.hid (by omega)
  have HI2 : Hid (0 ≤ n - j ∧ n - j ≤ 64) := Lib.hid (by omega)
  have HJ2 : Hid (0 ≤ j ∧ j ≤ 64) := Lib.hid (by omega)
  have HIN := Lib.hid (show (1 ≤ n ∧ n ≤ 64) ∧ (0 ≤ i ∧ i ≤ n) ∧ 0 ≤ j ∧ j ≤ n by omega)
  have hf : (-128000000 ≤ (n - i) * d0 + i * d3 ∧ (n - i) * d0 + i * d3 ≤ 128000000) ∧ (-128000000 ≤ (n - i) * d1 + i * d4 ∧ (n - i) * d1 + i * d4 ≤ 128000000) ∧ (-128000000 ≤ (n - i) * d2 + i * d5 ∧ (n - i) * d2 + i * d5 ≤ 128000000) := ⟨edge_bd HIN.out.1 HIN.out.2.1 b0 b3, edge_bd HIN.out.1 HIN.out.2.1 b1 b4, edge_bd HIN.out.1 HIN.out.2.1 b2 b5⟩
  have hg : (-128000000 ≤ (n - i) * d6 + i * d9 ∧ (n - i) * d6 + i * d9 ≤ 128000000) ∧ (-128000000 ≤ (n - i) * d7 + i * d10 ∧ (n - i) * d7 + i * d10 ≤ 128000000) ∧ (-128000000 ≤ (n - i) * d8 + i * d11 ∧ (n - i) * d8 + i * d11 ≤ 128000000) := ⟨edge_bd HIN.out.1 HIN.out.2.1 b6 b9, edge_bd HIN.out.1 HIN.out.2.1 b7 b10, edge_bd HIN.out.1 HIN.out.2.1 b8 b11⟩
  have HBF := Lib.hid hf
  have HBG := Lib.hid hg
  have HB := Lib.hid (And.intro b0 (And.intro b1 (And.intro b2 (And.intro b3 (And.intro b4 (And.intro b5 (And.intro b6 (And.intro b7 (And.intro b8 (And.intro b9 (And.intro b10 b11)))))))))))
  clear hf hg hi hj hn hn' b0 b1 b2 b3 b4 b5 b6 b7 b8 b9 b10 b11
  go_wp2_with fail
  refine (gridIx_yes _ _ _ HIN.out.2.1.1 HIN.out.2.1.2).mono ?_
  rintro e w' ⟨rfl, rfl⟩
  go_wp2_with fail
  refine (gridIx_yes _ _ _ HIN.out.2.2.1 HIN.out.2.2.2).mono ?_
  rintro e w' ⟨rfl, rfl⟩
  go_upto_region 4 with fail
  clear hn0 hn1
  obtain ⟨b0, b1, b2, b3, b4, b5, b6, b7, b8, b9, b10, b11⟩ := HB.out
  have ew : IntKind.i64.wrap (n - i) = n - i := IntWalk.i64_in _ (by have := HI.out; omega)
  have HC : ∀ W, Held w W [(k1, [.int .i64 d0, .int .i64 d1, .int .i64 d2, .int .i64 d3, .int .i64 d4, .int .i64 d5, .int .i64 d6, .int .i64 d7, .int .i64 d8, .int .i64 d9, .int .i64 d10, .int .i64 d11]), (w.heap.size + 1, [.int .i64 0, .int .i64 0, .int .i64 0]), (w.heap.size, [.int .i64 a0, .int .i64 a1, .int .i64 a2, .int .i64 a3, .int .i64 a4, .int .i64 a5, .int .i64 a6, .int .i64 a7, .int .i64 a8, .int .i64 x, .int .i64 y, .int .i64 z])] → (W.cell? ⟨k1, 0, none⟩ = some (.int .i64 d0) ∧ W.cell? ⟨k1, 1, none⟩ = some (.int .i64 d1) ∧ W.cell? ⟨k1, 2, none⟩ = some (.int .i64 d2) ∧ W.cell? ⟨k1, 3, none⟩ = some (.int .i64 d3) ∧ W.cell? ⟨k1, 4, none⟩ = some (.int .i64 d4) ∧ W.cell? ⟨k1, 5, none⟩ = some (.int .i64 d5)) := fun W h => ⟨(h.box 0).c 0, (h.box 0).c 1, (h.box 0).c 2, (h.box 0).c 3, (h.box 0).c 4, (h.box 0).c 5⟩
  go_cut [10] (fun s wx => ∃ gg : Nat, s = .pointer (some ⟨gg, 0, none⟩) ∧ w.heap.size + 1 < gg ∧ Mbox wx gg [.int .i64 ((n - i) * d0 + i * d3), .int .i64 ((n - i) * d1 + i * d4), .int .i64 ((n - i) * d2 + i * d5)] ∧ Held w wx [(k1, [.int .i64 d0, .int .i64 d1, .int .i64 d2, .int .i64 d3, .int .i64 d4, .int .i64 d5, .int .i64 d6, .int .i64 d7, .int .i64 d8, .int .i64 d9, .int .i64 d10, .int .i64 d11]), (w.heap.size + 1, [.int .i64 0, .int .i64 0, .int .i64 0]), (w.heap.size, [.int .i64 a0, .int .i64 a1, .int .i64 a2, .int .i64 a3, .int .i64 a4, .int .i64 a5, .int .i64 a6, .int .i64 a7, .int .i64 a8, .int .i64 x, .int .i64 y, .int .i64 z])])
  case first =>
    have t0 := bd_times (k := n - i) HI.out b0
    have lt0 : -4611686018427387904 ≤ (n - i) * d0 := by omega
    have vt0 : (n - i) * d0 ≤ 4611686018427387903 := by omega
    have t1 := bd_times (k := n - i) HI.out b1
    have lt1 : -4611686018427387904 ≤ (n - i) * d1 := by omega
    have vt1 : (n - i) * d1 ≤ 4611686018427387903 := by omega
    have t2 := bd_times (k := n - i) HI.out b2
    have lt2 : -4611686018427387904 ≤ (n - i) * d2 := by omega
    have vt2 : (n - i) * d2 ≤ 4611686018427387903 := by omega
    have t3 := bd_times (k := i) HJ.out b3
    have lt3 : -4611686018427387904 ≤ i * d3 := by omega
    have vt3 : i * d3 ≤ 4611686018427387903 := by omega
    have t4 := bd_times (k := i) HJ.out b4
    have lt4 : -4611686018427387904 ≤ i * d4 := by omega
    have vt4 : i * d4 ≤ 4611686018427387903 := by omega
    have t5 := bd_times (k := i) HJ.out b5
    have lt5 : -4611686018427387904 ≤ i * d5 := by omega
    have vt5 : i * d5 ≤ 4611686018427387903 := by omega
    have ls0 : -4611686018427387904 ≤ (n - i) * d0 + i * d3 := by omega
    have vs0 : (n - i) * d0 + i * d3 ≤ 4611686018427387903 := by omega
    have ls1 : -4611686018427387904 ≤ (n - i) * d1 + i * d4 := by omega
    have vs1 : (n - i) * d1 + i * d4 ≤ 4611686018427387903 := by omega
    have ls2 : -4611686018427387904 ≤ (n - i) * d2 + i * d5 := by omega
    have vs2 : (n - i) * d2 + i * d5 ≤ 4611686018427387903 := by omega
    clear t0 t1 t2 t3 t4 t5 b0 b1 b2 b3 b4 b5 b6 b7 b8 b9 b10 b11
    have hz0 := (HT.box 0).lt
    have hz1 := (HT.box 1).lt
    have hz2 := (HT.box 2).lt
    go_region_held3 (fun w' => w'.cell? ⟨k1, 0, none⟩ = some (.int .i64 d0) ∧ w'.cell? ⟨k1, 1, none⟩ = some (.int .i64 d1) ∧ w'.cell? ⟨k1, 2, none⟩ = some (.int .i64 d2) ∧ w'.cell? ⟨k1, 3, none⟩ = some (.int .i64 d3) ∧ w'.cell? ⟨k1, 4, none⟩ = some (.int .i64 d4) ∧ w'.cell? ⟨k1, 5, none⟩ = some (.int .i64 d5))
      (first | (with_reducible exact HC _ HT) | (with_reducible exact HC _ HT.drew) | (with_reducible exact HC _ (HT.alloc _)) | (with_reducible exact HC _ (HT.alloc _).drew) | (with_reducible exact HC _ (HT.far3 (by omega) (by simp <;> omega) _ _ _)) | (with_reducible exact HC _ (HT.drew.far3 (by omega) (by simp <;> omega) _ _ _)) | (with_reducible exact HC _ (HT.far3 (by omega) (by simp <;> omega) _ _ _).drew))
      (first | (go_at_call 16; refine (times_any _ _ _ _ _ (by assumption) (by assumption) (by assumption) (by assumption) (by assumption) (by assumption)).mono ?_; rintro e w1 ⟨rfl, hb1⟩; (first | (have HT := HT.later hb1) | (have HT := HT.drew.later hb1) | (have HT := (HT.alloc _).later hb1) | (have HT := (HT.alloc _).drew.later hb1)); have hz0 := (HT.box 0).lt; have hz1 := (HT.box 1).lt; have hz2 := (HT.box 2).lt; (first | (have HG := (Mbox.newV _ (.int .i64 0) (.int .i64 0) (.int .i64 0) 27).later hb1) | (have HG := (Mbox.newV _ (.int .i64 0) (.int .i64 0) (.int .i64 0) 27).drew.later hb1) | (have HG := HG.later hb1) | skip); (try simp only [World.size_alloc] at HG); (try (have hg0 := HG.c 0; have gg0 := HG.f 0; have hg1 := HG.c 1; have gg1 := HG.f 1; have hg2 := HG.c 2; have gg2 := HG.f 2))) | (go_at_call 17; refine (plus_any _ _ _ _ _ _ _ (by assumption) (by assumption) (by assumption) (by assumption) (by assumption) (by assumption)).mono ?_; rintro e w1 ⟨rfl, hb1⟩; (first | (have HT := HT.later hb1) | (have HT := HT.drew.later hb1) | (have HT := (HT.alloc _).later hb1) | (have HT := (HT.alloc _).drew.later hb1)); have hz0 := (HT.box 0).lt; have hz1 := (HT.box 1).lt; have hz2 := (HT.box 2).lt; (first | (have HG := (Mbox.newV _ (.int .i64 0) (.int .i64 0) (.int .i64 0) 27).later hb1) | (have HG := (Mbox.newV _ (.int .i64 0) (.int .i64 0) (.int .i64 0) 27).drew.later hb1) | (have HG := HG.later hb1) | skip); (try simp only [World.size_alloc] at HG); (try (have hg0 := HG.c 0; have gg0 := HG.f 0; have hg1 := HG.c 1; have gg1 := HG.f 1; have hg2 := HG.c 2; have gg2 := HG.f 2))))
    all_goals (clear ew; have hz8 := (HT.box 1).lt; go_wp2_with fail; go_meet)
    all_goals (first | with_reducible exact ⟨_, rfl, (by omega), Mbox.newV _ _ _ _ _, HT.alloc _⟩ | with_reducible exact ⟨_, rfl, (by omega), HG.putV _ _ _, HT.far3 (by omega) (by simp <;> omega) _ _ _⟩)
  case rest =>
    clear HC HT ew
    obtain ⟨g, rfl, hg, HV, HT⟩ := hcut
    have HT := HT.cons HV
    clear HV
    obtain ⟨b0, b1, b2, b3, b4, b5, b6, b7, b8, b9, b10, b11⟩ := HB.out
    have ew : IntKind.i64.wrap (n - i) = n - i := IntWalk.i64_in _ (by have := HI.out; omega)
    clear b0 b1 b2 b3 b4 b5 b6 b7 b8 b9 b10 b11
    go_upto_region 5 with fail
    obtain ⟨b0, b1, b2, b3, b4, b5, b6, b7, b8, b9, b10, b11⟩ := HB.out
    have HC : ∀ W, Held w W [(g, [.int .i64 ((n - i) * d0 + i * d3), .int .i64 ((n - i) * d1 + i * d4), .int .i64 ((n - i) * d2 + i * d5)]), (k1, [.int .i64 d0, .int .i64 d1, .int .i64 d2, .int .i64 d3, .int .i64 d4, .int .i64 d5, .int .i64 d6, .int .i64 d7, .int .i64 d8, .int .i64 d9, .int .i64 d10, .int .i64 d11]), (w.heap.size + 1, [.int .i64 0, .int .i64 0, .int .i64 0]), (w.heap.size, [.int .i64 a0, .int .i64 a1, .int .i64 a2, .int .i64 a3, .int .i64 a4, .int .i64 a5, .int .i64 a6, .int .i64 a7, .int .i64 a8, .int .i64 x, .int .i64 y, .int .i64 z])] → (W.cell? ⟨k1, 6, none⟩ = some (.int .i64 d6) ∧ W.cell? ⟨k1, 7, none⟩ = some (.int .i64 d7) ∧ W.cell? ⟨k1, 8, none⟩ = some (.int .i64 d8) ∧ W.cell? ⟨k1, 9, none⟩ = some (.int .i64 d9) ∧ W.cell? ⟨k1, 10, none⟩ = some (.int .i64 d10) ∧ W.cell? ⟨k1, 11, none⟩ = some (.int .i64 d11)) := fun W h => ⟨(h.box 1).c 6, (h.box 1).c 7, (h.box 1).c 8, (h.box 1).c 9, (h.box 1).c 10, (h.box 1).c 11⟩
    go_cut [11] (fun s wx => ∃ gg : Nat, s = .pointer (some ⟨gg, 0, none⟩) ∧ w.heap.size + 1 < gg ∧ Mbox wx gg [.int .i64 ((n - i) * d6 + i * d9), .int .i64 ((n - i) * d7 + i * d10), .int .i64 ((n - i) * d8 + i * d11)] ∧ Held w wx [(g, [.int .i64 ((n - i) * d0 + i * d3), .int .i64 ((n - i) * d1 + i * d4), .int .i64 ((n - i) * d2 + i * d5)]), (k1, [.int .i64 d0, .int .i64 d1, .int .i64 d2, .int .i64 d3, .int .i64 d4, .int .i64 d5, .int .i64 d6, .int .i64 d7, .int .i64 d8, .int .i64 d9, .int .i64 d10, .int .i64 d11]), (w.heap.size + 1, [.int .i64 0, .int .i64 0, .int .i64 0]), (w.heap.size, [.int .i64 a0, .int .i64 a1, .int .i64 a2, .int .i64 a3, .int .i64 a4, .int .i64 a5, .int .i64 a6, .int .i64 a7, .int .i64 a8, .int .i64 x, .int .i64 y, .int .i64 z])])
    case first =>
      have t0 := bd_times (k := n - i) HI.out b6
      have lt0 : -4611686018427387904 ≤ (n - i) * d6 := by omega
      have vt0 : (n - i) * d6 ≤ 4611686018427387903 := by omega
      have t1 := bd_times (k := n - i) HI.out b7
      have lt1 : -4611686018427387904 ≤ (n - i) * d7 := by omega
      have vt1 : (n - i) * d7 ≤ 4611686018427387903 := by omega
      have t2 := bd_times (k := n - i) HI.out b8
      have lt2 : -4611686018427387904 ≤ (n - i) * d8 := by omega
      have vt2 : (n - i) * d8 ≤ 4611686018427387903 := by omega
      have t3 := bd_times (k := i) HJ.out b9
      have lt3 : -4611686018427387904 ≤ i * d9 := by omega
      have vt3 : i * d9 ≤ 4611686018427387903 := by omega
      have t4 := bd_times (k := i) HJ.out b10
      have lt4 : -4611686018427387904 ≤ i * d10 := by omega
      have vt4 : i * d10 ≤ 4611686018427387903 := by omega
      have t5 := bd_times (k := i) HJ.out b11
      have lt5 : -4611686018427387904 ≤ i * d11 := by omega
      have vt5 : i * d11 ≤ 4611686018427387903 := by omega
      have ls0 : -4611686018427387904 ≤ (n - i) * d6 + i * d9 := by omega
      have vs0 : (n - i) * d6 + i * d9 ≤ 4611686018427387903 := by omega
      have ls1 : -4611686018427387904 ≤ (n - i) * d7 + i * d10 := by omega
      have vs1 : (n - i) * d7 + i * d10 ≤ 4611686018427387903 := by omega
      have ls2 : -4611686018427387904 ≤ (n - i) * d8 + i * d11 := by omega
      have vs2 : (n - i) * d8 + i * d11 ≤ 4611686018427387903 := by omega
      clear t0 t1 t2 t3 t4 t5 b0 b1 b2 b3 b4 b5 b6 b7 b8 b9 b10 b11
      have hz0 := (HT.box 0).lt
      have hz1 := (HT.box 1).lt
      have hz2 := (HT.box 2).lt
      have hz3 := (HT.box 3).lt
      go_region_held3 (fun w' => w'.cell? ⟨k1, 6, none⟩ = some (.int .i64 d6) ∧ w'.cell? ⟨k1, 7, none⟩ = some (.int .i64 d7) ∧ w'.cell? ⟨k1, 8, none⟩ = some (.int .i64 d8) ∧ w'.cell? ⟨k1, 9, none⟩ = some (.int .i64 d9) ∧ w'.cell? ⟨k1, 10, none⟩ = some (.int .i64 d10) ∧ w'.cell? ⟨k1, 11, none⟩ = some (.int .i64 d11))
        (first | (with_reducible exact HC _ HT) | (with_reducible exact HC _ HT.drew) | (with_reducible exact HC _ (HT.alloc _)) | (with_reducible exact HC _ (HT.alloc _).drew) | (with_reducible exact HC _ (HT.far3 (by omega) (by simp <;> omega) _ _ _)) | (with_reducible exact HC _ (HT.drew.far3 (by omega) (by simp <;> omega) _ _ _)) | (with_reducible exact HC _ (HT.far3 (by omega) (by simp <;> omega) _ _ _).drew))
        (first | (go_at_call 16; refine (times_any _ _ _ _ _ (by assumption) (by assumption) (by assumption) (by assumption) (by assumption) (by assumption)).mono ?_; rintro e w1 ⟨rfl, hb1⟩; (first | (have HT := HT.later hb1) | (have HT := HT.drew.later hb1) | (have HT := (HT.alloc _).later hb1) | (have HT := (HT.alloc _).drew.later hb1)); have hz0 := (HT.box 0).lt; have hz1 := (HT.box 1).lt; have hz2 := (HT.box 2).lt; have hz3 := (HT.box 3).lt; (first | (have HG := (Mbox.newV _ (.int .i64 0) (.int .i64 0) (.int .i64 0) 27).later hb1) | (have HG := (Mbox.newV _ (.int .i64 0) (.int .i64 0) (.int .i64 0) 27).drew.later hb1) | (have HG := HG.later hb1) | skip); (try simp only [World.size_alloc] at HG); (try (have hg0 := HG.c 0; have gg0 := HG.f 0; have hg1 := HG.c 1; have gg1 := HG.f 1; have hg2 := HG.c 2; have gg2 := HG.f 2))) | (go_at_call 17; refine (plus_any _ _ _ _ _ _ _ (by assumption) (by assumption) (by assumption) (by assumption) (by assumption) (by assumption)).mono ?_; rintro e w1 ⟨rfl, hb1⟩; (first | (have HT := HT.later hb1) | (have HT := HT.drew.later hb1) | (have HT := (HT.alloc _).later hb1) | (have HT := (HT.alloc _).drew.later hb1)); have hz0 := (HT.box 0).lt; have hz1 := (HT.box 1).lt; have hz2 := (HT.box 2).lt; have hz3 := (HT.box 3).lt; (first | (have HG := (Mbox.newV _ (.int .i64 0) (.int .i64 0) (.int .i64 0) 27).later hb1) | (have HG := (Mbox.newV _ (.int .i64 0) (.int .i64 0) (.int .i64 0) 27).drew.later hb1) | (have HG := HG.later hb1) | skip); (try simp only [World.size_alloc] at HG); (try (have hg0 := HG.c 0; have gg0 := HG.f 0; have hg1 := HG.c 1; have gg1 := HG.f 1; have hg2 := HG.c 2; have gg2 := HG.f 2))))
      all_goals (clear ew; have hz8 := (HT.box 2).lt; go_wp2_with fail; go_meet)
      all_goals (first | with_reducible exact ⟨_, rfl, (by omega), Mbox.newV _ _ _ _ _, HT.alloc _⟩ | with_reducible exact ⟨_, rfl, (by omega), HG.putV _ _ _, HT.far3 (by omega) (by simp <;> omega) _ _ _⟩)
    case rest =>
      clear HC HT ew
      obtain ⟨h, rfl, hh, HV, HT⟩ := hcut
      have HT := HT.cons HV
      clear HV
      clear b0 b1 b2 b3 b4 b5 b6 b7 b8 b9 b10 b11 HB
      have hF0 : fdivP ((n - j) * ((n - i) * d0 + i * d3) + j * ((n - i) * d6 + i * d9)) (n * n) = evP d0 d3 d6 d9 i j n := by rw [ev_yes HIN.out]; rfl
      have hF1 : fdivP ((n - j) * ((n - i) * d1 + i * d4) + j * ((n - i) * d7 + i * d10)) (n * n) = evP d1 d4 d7 d10 i j n := by rw [ev_yes HIN.out]; rfl
      have hF2 : fdivP ((n - j) * ((n - i) * d2 + i * d5) + j * ((n - i) * d8 + i * d11)) (n * n) = evP d2 d5 d8 d11 i j n := by rw [ev_yes HIN.out]; rfl
      obtain ⟨hf0, hf1, hf2⟩ := HBF.out
      obtain ⟨hg0, hg1, hg2⟩ := HBG.out
      clear HBF HBG
      generalize (n - i) * d0 + i * d3 = f0 at HT hf0 hF0 ⊢
      generalize (n - i) * d6 + i * d9 = g0 at HT hg0 hF0 ⊢
      generalize (n - i) * d1 + i * d4 = f1 at HT hf1 hF1 ⊢
      generalize (n - i) * d7 + i * d10 = g1 at HT hg1 hF1 ⊢
      generalize (n - i) * d2 + i * d5 = f2 at HT hf2 hF2 ⊢
      generalize (n - i) * d8 + i * d11 = g2 at HT hg2 hF2 ⊢
      have HF0 := Lib.hid (hF0)
      have HF1 := Lib.hid (hF1)
      have HF2 := Lib.hid (hF2)
      clear hF0 hF1 hF2
      have HT := HT.pick (cs := [(w.heap.size + 1, [.int .i64 0, .int .i64 0, .int .i64 0]), (g, [.int .i64 f0, .int .i64 f1, .int .i64 f2]), (h, [.int .i64 g0, .int .i64 g1, .int .i64 g2])]) (by simp)
      have ew : IntKind.i64.wrap (n - j) = n - j := IntWalk.i64_in _ (by have := HI2.out; omega)
      have ew2 : IntKind.i64.wrap (n * n) = n * n := IntWalk.i64_in _ (by have := sq_pos HIN.out.1.1; have := sq_le HIN.out.1.1 HIN.out.1.2; omega)
      go_upto_region 6 with fail
      have HC : ∀ W, Held w W [(g, [.int .i64 f0, .int .i64 f1, .int .i64 f2]), (h, [.int .i64 g0, .int .i64 g1, .int .i64 g2])] → (W.cell? ⟨g, 0, none⟩ = some (.int .i64 f0) ∧ W.cell? ⟨g, 1, none⟩ = some (.int .i64 f1) ∧ W.cell? ⟨g, 2, none⟩ = some (.int .i64 f2) ∧ W.cell? ⟨h, 0, none⟩ = some (.int .i64 g0) ∧ W.cell? ⟨h, 1, none⟩ = some (.int .i64 g1) ∧ W.cell? ⟨h, 2, none⟩ = some (.int .i64 g2)) := fun W h => ⟨(h.box 0).c 0, (h.box 0).c 1, (h.box 0).c 2, (h.box 1).c 0, (h.box 1).c 1, (h.box 1).c 2⟩
      have t0 := bd_times2 (k := n - j) HI2.out hf0
      have lt0 : -4611686018427387904 ≤ (n - j) * f0 := by omega
      have vt0 : (n - j) * f0 ≤ 4611686018427387903 := by omega
      have t1 := bd_times2 (k := n - j) HI2.out hf1
      have lt1 : -4611686018427387904 ≤ (n - j) * f1 := by omega
      have vt1 : (n - j) * f1 ≤ 4611686018427387903 := by omega
      have t2 := bd_times2 (k := n - j) HI2.out hf2
      have lt2 : -4611686018427387904 ≤ (n - j) * f2 := by omega
      have vt2 : (n - j) * f2 ≤ 4611686018427387903 := by omega
      have t3 := bd_times2 (k := j) HJ2.out hg0
      have lt3 : -4611686018427387904 ≤ j * g0 := by omega
      have vt3 : j * g0 ≤ 4611686018427387903 := by omega
      have t4 := bd_times2 (k := j) HJ2.out hg1
      have lt4 : -4611686018427387904 ≤ j * g1 := by omega
      have vt4 : j * g1 ≤ 4611686018427387903 := by omega
      have t5 := bd_times2 (k := j) HJ2.out hg2
      have lt5 : -4611686018427387904 ≤ j * g2 := by omega
      have vt5 : j * g2 ≤ 4611686018427387903 := by omega
      have ls0 : -4611686018427387904 ≤ (n - j) * f0 + j * g0 := by omega
      have vs0 : (n - j) * f0 + j * g0 ≤ 4611686018427387903 := by omega
      have ls1 : -4611686018427387904 ≤ (n - j) * f1 + j * g1 := by omega
      have vs1 : (n - j) * f1 + j * g1 ≤ 4611686018427387903 := by omega
      have ls2 : -4611686018427387904 ≤ (n - j) * f2 + j * g2 := by omega
      have vs2 : (n - j) * f2 + j * g2 ≤ 4611686018427387903 := by omega
      clear t0 t1 t2 t3 t4 t5 hf0 hf1 hf2 hg0 hg1 hg2
      have HGN := Lib.hid (And.intro hg hh)
      go_region_held3 (fun w' => w'.cell? ⟨g, 0, none⟩ = some (.int .i64 f0) ∧ w'.cell? ⟨g, 1, none⟩ = some (.int .i64 f1) ∧ w'.cell? ⟨g, 2, none⟩ = some (.int .i64 f2) ∧ w'.cell? ⟨h, 0, none⟩ = some (.int .i64 g0) ∧ w'.cell? ⟨h, 1, none⟩ = some (.int .i64 g1) ∧ w'.cell? ⟨h, 2, none⟩ = some (.int .i64 g2))
        (first | (with_reducible exact HC _ HT.tail) | (with_reducible exact HC _ HT.drew.tail) | (with_reducible exact HC _ (HT.tail.far3 (by omega) (by simp <;> omega) _ _ _)) | (with_reducible exact HC _ (HT.tail.far3 (by omega) (by simp <;> omega) _ _ _).drew))
        (first | (go_at_call 16; refine (times_any _ _ _ _ _ (by assumption) (by assumption) (by assumption) (by assumption) (by assumption) (by assumption)).mono ?_; rintro e w1 ⟨rfl, hb1⟩; (first | (have HT := HT.later hb1) | (have HT := HT.drew.later hb1)); have r0 := (HT.box 0).c 0; have gr0 := (HT.box 0).f 0; have r1 := (HT.box 0).c 1; have gr1 := (HT.box 0).f 1; have r2 := (HT.box 0).c 2; have gr2 := (HT.box 0).f 2; have HW := HT.below) | (go_at_call 17; refine (plus_any _ _ _ _ _ _ _ (by assumption) (by assumption) (by assumption) (by assumption) (by assumption) (by assumption)).mono ?_; rintro e w1 ⟨rfl, hb1⟩; (first | (have HT := HT.later hb1) | (have HT := HT.drew.later hb1)); have r0 := (HT.box 0).c 0; have gr0 := (HT.box 0).f 0; have r1 := (HT.box 0).c 1; have gr1 := (HT.box 0).f 1; have r2 := (HT.box 0).c 2; have gr2 := (HT.box 0).f 2; have HW := HT.below) | (go_at_call 18; refine (over_any _ _ _ _ _ (by assumption) (by assumption) (by assumption) (by assumption) (by assumption) (by assumption)).mono ?_; rintro e w1 ⟨rfl, hb1⟩; (first | (have HT := HT.later hb1) | (have HT := HT.drew.later hb1)); have r0 := (HT.box 0).c 0; have gr0 := (HT.box 0).f 0; have r1 := (HT.box 0).c 1; have gr1 := (HT.box 0).f 1; have r2 := (HT.box 0).c 2; have gr2 := (HT.box 0).f 2; have HW := HT.below))
      clear ew ew2
      go_wp2
      exact bodyPost_ret (v := vec (fdivP ((n - j) * f0 + j * g0) (n * n)) (fdivP ((n - j) * f1 + j * g1) (n * n)) (fdivP ((n - j) * f2 + j * g2) (n * n))) (by simp [results, Try.results7, go_sem, r0, r1, r2]) rfl ⟨ret_vec HF0.out HF1.out HF2.out, bset3 HW (by omega)⟩
end Go.Proofs.Ytolinlcihddkoab
