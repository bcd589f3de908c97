/- Contracts of IsValidPatch: the program and its model. -/
import Derived.Test.YtolinlcihddkoabProg
import Derived.Test.YtolinlcihddkoabInts
import Derived.Test.YtolinlcihddkoabVbox
import Derived.Test.YtolinlcihddkoabVec
import Derived.Test.YtolinlcihddkoabHeld
import Derived.Test.YtolinlcihddkoabArr
import Derived.Test.YtolinlcihddkoabTr
import Derived.Test.YtolinlcihddkoabMem
import Derived.Test.YtolinlcihddkoabFlat
import Derived.Test.YtolinlcihddkoabRowC
import Derived.Test.YtolinlcihddkoabPat
import Derived.WalkKit
import Derived.WalkSpells
import Derived.WalkLawsBesides
import Derived.Lib.Hide
import Derived.Deep.RegionHeld3
import Derived.Deep.QuietTactic
import Derived.BigQuiet
import Derived.Handy
import Derived.Deep.DeepCutAuto
import Derived.Laws.StructEq
namespace Go.Proofs.Ytolinlcihddkoab
open Go.RowKit

theorem veq_d (d : Nat) (a b c p q r : Int) (w : World) : (Op.equalIn (d + 2) 27 (vec a b c) (vec p q r)).run Try.prog w = .ok (veqB a b c p q r) w := by
  have u3 := Try.underlying3
  have a3 := Try.isAgg3
  have z3 := Try.sizeOf3
  have hS : Try.prog.underlying 27 = some (.struct (Try.prog.fieldsOf 27)) := by kernel_rfl
  have hp : Try.prog.stoodInHeld 27 = false := by kernel_rfl
  rw [show (d + 2 : Nat) = (d + 1) + 1 from rfl, run_equalIn_agg w (d + 1) 27 _ _ hS hp]
  simp only [Program.fieldsOf, Try.underlying27]
  unfold veqB
  go_simp
  by_cases h1 : a = p <;> by_cases h2 : b = q <;> by_cases h3 : c = r <;> simp [h1, h2, h3]
theorem eq4 (d : Nat) (a0 a1 a2 a3 a4 a5 a6 a7 a8 x y z b0 b1 b2 b3 b4 b5 b6 b7 b8 b9 b10 b11 : Int) (w : World) : (Op.equalIn (d + 3) 28 (tr a0 a1 a2 a3 a4 a5 a6 a7 a8 x y z) (tr b0 b1 b2 b3 b4 b5 b6 b7 b8 b9 b10 b11)).run Try.prog w = .ok ([(a0, a1, a2), (a3, a4, a5), (a6, a7, a8), (x, y, z)] == [(b0, b1, b2), (b3, b4, b5), (b6, b7, b8), (b9, b10, b11)]) w := by
  have hsz : ∀ w, (sizeOf 27).run Try.prog w = .ok 3 w := fun w => by kernel_rfl
  have px : ∀ (c0 c1 c2 c3 c4 c5 c6 c7 c8 c9 c10 c11 : Value) (w : World),
      (part 27 #[c0, c1, c2, c3, c4, c5, c6, c7, c8, c9, c10, c11] 0).run Try.prog w = .ok (.agg #[c0, c1, c2]) w ∧
      (part 27 #[c0, c1, c2, c3, c4, c5, c6, c7, c8, c9, c10, c11] 3).run Try.prog w = .ok (.agg #[c3, c4, c5]) w ∧
      (part 27 #[c0, c1, c2, c3, c4, c5, c6, c7, c8, c9, c10, c11] 6).run Try.prog w = .ok (.agg #[c6, c7, c8]) w ∧
      (part 27 #[c0, c1, c2, c3, c4, c5, c6, c7, c8, c9, c10, c11] 9).run Try.prog w = .ok (.agg #[c9, c10, c11]) w := fun _ _ _ _ _ _ _ _ _ _ _ _ _ =>
    ⟨by kernel_rfl, by kernel_rfl, by kernel_rfl, by kernel_rfl⟩
  have e : ([(a0, a1, a2), (a3, a4, a5), (a6, a7, a8), (x, y, z)] == [(b0, b1, b2), (b3, b4, b5), (b6, b7, b8), (b9, b10, b11)]) = (veqB a0 a1 a2 b0 b1 b2 && veqB a3 a4 a5 b3 b4 b5 && veqB a6 a7 a8 b6 b7 b8 && veqB x y z b9 b10 b11) := by
    rw [Bool.eq_iff_iff]; simp [veqB, and_assoc]
  rw [e, show (d + 3 : Nat) = (d + 2) + 1 from rfl, Op.equalIn]
  have hr : List.range' 0 4 1 = [0, 1, 2, 3] := by rfl
  simp only [Sem.run_bind, run_underlying Try.underlying28, Result.andThen_ok, hsz, Std.Legacy.Range.forIn_eq_forIn_range', Std.Legacy.Range.size, Nat.sub_zero, Nat.add_sub_cancel, Nat.div_one, hr]
  have q := px (.int .i64 a0) (.int .i64 a1) (.int .i64 a2) (.int .i64 a3) (.int .i64 a4) (.int .i64 a5) (.int .i64 a6) (.int .i64 a7) (.int .i64 a8) (.int .i64 x) (.int .i64 y) (.int .i64 z)
  have q' := px (.int .i64 b0) (.int .i64 b1) (.int .i64 b2) (.int .i64 b3) (.int .i64 b4) (.int .i64 b5) (.int .i64 b6) (.int .i64 b7) (.int .i64 b8) (.int .i64 b9) (.int .i64 b10) (.int .i64 b11)
  simp only [List.forIn_cons, List.forIn_nil, Sem.run_bind, (q _).1, (q' _).1, veq_d, Result.andThen_ok, Nat.zero_mul]
  cases h0 : veqB a0 a1 a2 b0 b1 b2 <;> cases h1 : veqB a3 a4 a5 b3 b4 b5 <;> cases h2 : veqB a6 a7 a8 b6 b7 b8 <;> cases h3 : veqB x y z b9 b10 b11 <;>
    simp [(q _).2.1, (q _).2.2.1, (q _).2.2.2, (q' _).2.1, (q' _).2.2.1, (q' _).2.2.2, veq_d, h1, h2, h3]
theorem eql_pat (a0 a1 a2 a3 a4 a5 a6 a7 a8 x y z b0 b1 b2 b3 b4 b5 b6 b7 b8 b9 b10 b11 : Int) (w : World) : (Op.equalIn 10000 30 (tr a0 a1 a2 a3 a4 a5 a6 a7 a8 x y z) (tr b0 b1 b2 b3 b4 b5 b6 b7 b8 b9 b10 b11)).run Try.prog w = .ok ([(a0, a1, a2), (a3, a4, a5), (a6, a7, a8), (x, y, z)] == [(b0, b1, b2), (b3, b4, b5), (b6, b7, b8), (b9, b10, b11)]) w := by
  have hS : Try.prog.underlying 30 = some (.struct (Try.prog.fieldsOf 30)) := by kernel_rfl
  have hp : Try.prog.stoodInHeld 30 = false := by kernel_rfl
  have px : ∀ (c0 c1 c2 c3 c4 c5 c6 c7 c8 c9 c10 c11 : Value) (w : World),
      (part 28 #[c0, c1, c2, c3, c4, c5, c6, c7, c8, c9, c10, c11] 0).run Try.prog w = .ok (.agg #[c0, c1, c2, c3, c4, c5, c6, c7, c8, c9, c10, c11]) w := fun _ _ _ _ _ _ _ _ _ _ _ _ _ => by kernel_rfl
  rw [show (10000 : Nat) = 9999 + 1 from rfl, run_equalIn_agg w 9999 30 _ _ hS hp]
  simp only [Program.fieldsOf, Try.underlying30]
  have h := eq4 9996 a0 a1 a2 a3 a4 a5 a6 a7 a8 x y z b0 b1 b2 b3 b4 b5 b6 b7 b8 b9 b10 b11 w
  generalize ([(a0, a1, a2), (a3, a4, a5), (a6, a7, a8), (x, y, z)] == [(b0, b1, b2), (b3, b4, b5), (b6, b7, b8), (b9, b10, b11)]) = b at h ⊢
  rw [show (9996 + 3 : Nat) = 9999 from rfl] at h
  cases b <;> simp [Op.eqFields, px, h]
theorem eql_patB (a0 a1 a2 a3 a4 a5 a6 a7 a8 x y z b0 b1 b2 b3 b4 b5 b6 b7 b8 b9 b10 b11 : Int) (w : World) : (binOp .eql 30 (tr a0 a1 a2 a3 a4 a5 a6 a7 a8 x y z) (tr b0 b1 b2 b3 b4 b5 b6 b7 b8 b9 b10 b11)).run Try.prog w = .ok (.bool ([(a0, a1, a2), (a3, a4, a5), (a6, a7, a8), (x, y, z)] == [(b0, b1, b2), (b3, b4, b5), (b6, b7, b8), (b9, b10, b11)])) w := by
  rw [run_eql_struct, eql_pat]; rfl

set_option maxHeartbeats 4000000 in
theorem pclamped_any (a0 a1 a2 a3 a4 a5 a6 a7 a8 x y z : Int) (w : World) :
    Calls Try.prog 14 #[tr a0 a1 a2 a3 a4 a5 a6 a7 a8 x y z] w (TrOut (cc a0) (cc a1) (cc a2) (cc a3) (cc a4) (cc a5) (cc a6) (cc a7) (cc a8) (cc x) (cc y) (cc z) w) := by
  have HT : Held w ((w.alloc (.cells #[.int .i64 a0, .int .i64 a1, .int .i64 a2, .int .i64 a3, .int .i64 a4, .int .i64 a5, .int .i64 a6, .int .i64 a7, .int .i64 a8, .int .i64 x, .int .i64 y, .int .i64 z] 30)).alloc (.cells #[.int .i64 0, .int .i64 0, .int .i64 0, .int .i64 0, .int .i64 0, .int .i64 0, .int .i64 0, .int .i64 0, .int .i64 0, .int .i64 0, .int .i64 0, .int .i64 0] 30)) [(w.heap.size + 1, [.int .i64 0, .int .i64 0, .int .i64 0, .int .i64 0, .int .i64 0, .int .i64 0, .int .i64 0, .int .i64 0, .int .i64 0, .int .i64 0, .int .i64 0, .int .i64 0]), (w.heap.size, [.int .i64 a0, .int .i64 a1, .int .i64 a2, .int .i64 a3, .int .i64 a4, .int .i64 a5, .int .i64 a6, .int .i64 a7, .int .i64 a8, .int .i64 x, .int .i64 y, .int .i64 z])] := by
    have h := ((Held.nil w).new #[.int .i64 a0, .int .i64 a1, .int .i64 a2, .int .i64 a3, .int .i64 a4, .int .i64 a5, .int .i64 a6, .int .i64 a7, .int .i64 a8, .int .i64 x, .int .i64 y, .int .i64 z] 30).new #[.int .i64 0, .int .i64 0, .int .i64 0, .int .i64 0, .int .i64 0, .int .i64 0, .int .i64 0, .int .i64 0, .int .i64 0, .int .i64 0, .int .i64 0, .int .i64 0] 30
    simpa only [World.size_alloc] using h
  obtain ⟨xs, hxs⟩ : ∃ xs : List V3, xs = [(a0, a1, a2), (a3, a4, a5), (a6, a7, a8), (x, y, z)] := ⟨_, rfl⟩
  have hlen : xs.length = 4 := by rw [hxs]; rfl
  obtain ⟨ys, hys⟩ : ∃ ys, ys = xs.map ccV := ⟨_, rfl⟩
  have hlen' : ys.length = 4 := by rw [hys]; simpa using hlen
  have HT := HT.pick (cs := [(w.heap.size, [.int .i64 a0, .int .i64 a1, .int .i64 a2, .int .i64 a3, .int .i64 a4, .int .i64 a5, .int .i64 a6, .int .i64 a7, .int .i64 a8, .int .i64 x, .int .i64 y, .int .i64 z]), (w.heap.size + 1, [.int .i64 0, .int .i64 0, .int .i64 0, .int .i64 0, .int .i64 0, .int .i64 0, .int .i64 0, .int .i64 0, .int .i64 0, .int .i64 0, .int .i64 0, .int .i64 0])]) (by simp)
  have HT : Held w ((w.alloc (.cells #[.int .i64 a0, .int .i64 a1, .int .i64 a2, .int .i64 a3, .int .i64 a4, .int .i64 a5, .int .i64 a6, .int .i64 a7, .int .i64 a8, .int .i64 x, .int .i64 y, .int .i64 z] 30)).alloc (.cells #[.int .i64 0, .int .i64 0, .int .i64 0, .int .i64 0, .int .i64 0, .int .i64 0, .int .i64 0, .int .i64 0, .int .i64 0, .int .i64 0, .int .i64 0, .int .i64 0] 30)) [(w.heap.size, (partA xs ys 0).flatMap vg), (w.heap.size + 1, [.int .i64 0, .int .i64 0, .int .i64 0, .int .i64 0, .int .i64 0, .int .i64 0, .int .i64 0, .int .i64 0, .int .i64 0, .int .i64 0, .int .i64 0, .int .i64 0])] := by rw [partA_zero, hxs]; exact HT
  have HX := Lib.hid hxs
  have HY := Lib.hid hys
  clear hxs hys
  go_enter Try.func14, Try.ntmps14
  go_wp2
  go_loopw [4] (fun i wr => ∃ k : Nat, k ≤ 4 ∧ i = .int .i64 k ∧ Held w wr [(w.heap.size, (partA xs ys k).flatMap vg), (w.heap.size + 1, [.int .i64 0, .int .i64 0, .int .i64 0, .int .i64 0, .int .i64 0, .int .i64 0, .int .i64 0, .int .i64 0, .int .i64 0, .int .i64 0, .int .i64 0, .int .i64 0])]) (fun i _ => 4 - (intOf i).toNat)
  case atStart => exact ⟨0, Nat.zero_le _, rfl, HT⟩
  case round =>
    clear HT
    obtain ⟨k, hk, rfl, HT⟩ := hrel
    by_cases hlt : k < 4
    · have he := partA_at (xs := xs) (ys := ys) (by omega) (k := k) (by omega)
      have hs := partA_step (xs := xs) (ys := ys) (by omega) (k := k) (by omega)
      have hy : ys[k]'(by omega) = ccV (xs[k]'(by omega)) := by simp [HY.out]
      rw [hy] at hs
      generalize xs[k]'(by omega) = v at he hs
      obtain ⟨c0, c1, c2⟩ := (HT.box 0).v3 he
      have hlt' : (k : Int) < 4 := by omega
      have hge' : (0 : Int) ≤ (k : Int) := by omega

      have HE := Lib.hid he
      have HS := Lib.hid hs
      clear hy he hs
      go_wp2_with fail
      refine (clamped_any _ _ _ _).mono ?_
      rintro e w1 ⟨rfl, hb1⟩
      have HT := HT.later hb1
      clear hb1 c0 c1 c2
      obtain ⟨d0, d1, d2⟩ := (HT.box 0).v3 HE.out
      obtain ⟨f0, f1, f2⟩ := (HT.box 0).v3f HE.out
      have HP := HT.putV (by omega) (by simp) k (ccV v)
      rw [HS.out] at HP
      have HH := Lib.hid HP
      clear HT HP HE HS
      go_wp2
      go_roundw
      case rel => exact ⟨k + 1, by omega, by go_num, HH.out⟩
      case measure => simp [intOf]; omega
    · have e : k = 4 := by omega
      subst e
      have HT : Held w wr [(w.heap.size, [.int .i64 (cc a0), .int .i64 (cc a1), .int .i64 (cc a2), .int .i64 (cc a3), .int .i64 (cc a4), .int .i64 (cc a5), .int .i64 (cc a6), .int .i64 (cc a7), .int .i64 (cc a8), .int .i64 (cc x), .int .i64 (cc y), .int .i64 (cc z)]), (w.heap.size + 1, [.int .i64 0, .int .i64 0, .int .i64 0, .int .i64 0, .int .i64 0, .int .i64 0, .int .i64 0, .int .i64 0, .int .i64 0, .int .i64 0, .int .i64 0, .int .i64 0])] := by
        rw [HY.out, HX.out] at HT
        exact HT
      have c0 := (HT.box 0).c 0
      have c1 := (HT.box 0).c 1
      have c2 := (HT.box 0).c 2
      have c3 := (HT.box 0).c 3
      have c4 := (HT.box 0).c 4
      have c5 := (HT.box 0).c 5
      have c6 := (HT.box 0).c 6
      have c7 := (HT.box 0).c 7
      have c8 := (HT.box 0).c 8
      have c9 := (HT.box 0).c 9
      have c10 := (HT.box 0).c 10
      have c11 := (HT.box 0).c 11
      have r0 := (HT.box 1).c 0
      have r1 := (HT.box 1).c 1
      have r2 := (HT.box 1).c 2
      have r3 := (HT.box 1).c 3
      have r4 := (HT.box 1).c 4
      have r5 := (HT.box 1).c 5
      have r6 := (HT.box 1).c 6
      have r7 := (HT.box 1).c 7
      have r8 := (HT.box 1).c 8
      have r9 := (HT.box 1).c 9
      have r10 := (HT.box 1).c 10
      have r11 := (HT.box 1).c 11
      have g0 := (HT.box 1).f 0
      have g1 := (HT.box 1).f 1
      have g2 := (HT.box 1).f 2
      have g3 := (HT.box 1).f 3
      have g4 := (HT.box 1).f 4
      have g5 := (HT.box 1).f 5
      have g6 := (HT.box 1).f 6
      have g7 := (HT.box 1).f 7
      have g8 := (HT.box 1).f 8
      have g9 := (HT.box 1).f 9
      have g10 := (HT.box 1).f 10
      have g11 := (HT.box 1).f 11
      have HW := HT.below
      clear HT
      clear hlt hk hlen hlen' HX HY
      go_wp2_with fail
      exact bodyPost_ret (v := tr (cc a0) (cc a1) (cc a2) (cc a3) (cc a4) (cc a5) (cc a6) (cc a7) (cc a8) (cc x) (cc y) (cc z)) (by simp [results, Try.results14, go_sem, r0, r1, r2, r3, r4, r5, r6, r7, r8, r9, r10, r11]) rfl ⟨rfl, bset_far12 HW (by omega)⟩


theorem index_pat (a0 a1 a2 a3 a4 a5 a6 a7 a8 x y z : Int) (v : V3) (k : Nat) (h : ([(a0, a1, a2), (a3, a4, a5), (a6, a7, a8), (x, y, z)] : List V3)[k]? = some v) (w : World) : (Instr.index 28 (tr a0 a1 a2 a3 a4 a5 a6 a7 a8 x y z) (.int .i64 k)).run Try.prog w = .ok (vec v.1 v.2.1 v.2.2) w := by
  match k, h with
  | 0, h => obtain rfl := Option.some.inj h; exact (show (Instr.index 28 (tr a0 a1 a2 a3 a4 a5 a6 a7 a8 x y z) (.int .i64 ((0 : Nat) : Int))).run Try.prog w = .ok (vec a0 a1 a2) w by kernel_rfl)
  | 1, h => obtain rfl := Option.some.inj h; exact (show (Instr.index 28 (tr a0 a1 a2 a3 a4 a5 a6 a7 a8 x y z) (.int .i64 ((1 : Nat) : Int))).run Try.prog w = .ok (vec a3 a4 a5) w by kernel_rfl)
  | 2, h => obtain rfl := Option.some.inj h; exact (show (Instr.index 28 (tr a0 a1 a2 a3 a4 a5 a6 a7 a8 x y z) (.int .i64 ((2 : Nat) : Int))).run Try.prog w = .ok (vec a6 a7 a8) w by kernel_rfl)
  | 3, h => obtain rfl := Option.some.inj h; exact (show (Instr.index 28 (tr a0 a1 a2 a3 a4 a5 a6 a7 a8 x y z) (.int .i64 ((3 : Nat) : Int))).run Try.prog w = .ok (vec x y z) w by kernel_rfl)
  | k + 4, h => simp at h

end Go.Proofs.Ytolinlcihddkoab
