/- Contracts of IsValidPatch: the program and its model. -/
import Derived.Test.YtbgpcgimmiinbaaProg
import Derived.Test.YtbgpcgimmiinbaaInts
import Derived.Test.YtbgpcgimmiinbaaVbox
import Derived.Test.YtbgpcgimmiinbaaVec
import Derived.Test.YtbgpcgimmiinbaaHeld
import Derived.Test.YtbgpcgimmiinbaaArr
import Derived.Test.YtbgpcgimmiinbaaTr
import Derived.Test.YtbgpcgimmiinbaaMem
import Derived.Test.YtbgpcgimmiinbaaFlat
import Derived.Test.YtbgpcgimmiinbaaRowC
import Derived.Test.YtbgpcgimmiinbaaPat
import Derived.WalkKit
import Derived.WalkSpells
import Derived.WalkLawsBesides
import Derived.Lib.Hide
import Derived.Deep.RegionHeld3
import Derived.Deep.QuietTactic
import Derived.BigQuiet
import Derived.Handy
import Derived.Deep.DeepCutAuto
import Derived.Laws.StructEq
namespace Go.Proofs.Ytbgpcgimmiinbaa
open Go.RowKit

theorem veq_d (d : Nat) (a b c p q r : Int) (w : World) : (Op.equalIn (d + 2) 37 (vec a b c) (vec p q r)).run Try.prog w = .ok (veqB a b c p q r) w := by
  have u3 := Try.underlying3
  have a3 := Try.isAgg3
  have z3 := Try.sizeOf3
  have hS : Try.prog.underlying 37 = some (.struct (Try.prog.fieldsOf 37)) := by kernel_rfl
  have hp : Try.prog.stoodInHeld 37 = false := by kernel_rfl
  rw [show (d + 2 : Nat) = (d + 1) + 1 from rfl, run_equalIn_agg w (d + 1) 37 _ _ hS hp]
  simp only [Program.fieldsOf, Try.underlying37]
  unfold veqB
  go_simp
  by_cases h1 : a = p <;> by_cases h2 : b = q <;> by_cases h3 : c = r <;> simp [h1, h2, h3]
theorem eq4 (d : Nat) (a0 a1 a2 a3 a4 a5 a6 a7 a8 x y z b0 b1 b2 b3 b4 b5 b6 b7 b8 b9 b10 b11 : Int) (w : World) : (Op.equalIn (d + 3) 38 (tr a0 a1 a2 a3 a4 a5 a6 a7 a8 x y z) (tr b0 b1 b2 b3 b4 b5 b6 b7 b8 b9 b10 b11)).run Try.prog w = .ok ([(a0, a1, a2), (a3, a4, a5), (a6, a7, a8), (x, y, z)] == [(b0, b1, b2), (b3, b4, b5), (b6, b7, b8), (b9, b10, b11)]) w := by
  have hsz : ∀ w, (sizeOf 37).run Try.prog w = .ok 3 w := fun w => by kernel_rfl
  have px : ∀ (c0 c1 c2 c3 c4 c5 c6 c7 c8 c9 c10 c11 : Value) (w : World),
      (part 37 #[c0, c1, c2, c3, c4, c5, c6, c7, c8, c9, c10, c11] 0).run Try.prog w = .ok (.agg #[c0, c1, c2]) w ∧
      (part 37 #[c0, c1, c2, c3, c4, c5, c6, c7, c8, c9, c10, c11] 3).run Try.prog w = .ok (.agg #[c3, c4, c5]) w ∧
      (part 37 #[c0, c1, c2, c3, c4, c5, c6, c7, c8, c9, c10, c11] 6).run Try.prog w = .ok (.agg #[c6, c7, c8]) w ∧
      (part 37 #[c0, c1, c2, c3, c4, c5, c6, c7, c8, c9, c10, c11] 9).run Try.prog w = .ok (.agg #[c9, c10, c11]) w := fun _ _ _ _ _ _ _ _ _ _ _ _ _ =>
    ⟨by kernel_rfl, by kernel_rfl, by kernel_rfl, by kernel_rfl⟩
  have e : ([(a0, a1, a2), (a3, a4, a5), (a6, a7, a8), (x, y, z)] == [(b0, b1, b2), (b3, b4, b5), (b6, b7, b8), (b9, b10, b11)]) = (veqB a0 a1 a2 b0 b1 b2 && veqB a3 a4 a5 b3 b4 b5 && veqB a6 a7 a8 b6 b7 b8 && veqB x y z b9 b10 b11) := by
    rw [Bool.eq_iff_iff]; simp [veqB, and_assoc]
  rw [e, show (d + 3 : Nat) = (d + 2) + 1 from rfl, Op.equalIn]
  have hr : List.range' 0 4 1 = [0, 1, 2, 3] := by rfl
  simp only [Sem.run_bind, run_underlying Try.underlying38, Result.andThen_ok, hsz, Std.Legacy.Range.forIn_eq_forIn_range', Std.Legacy.Range.size, Nat.sub_zero, Nat.add_sub_cancel, Nat.div_one, hr]
  have q := px (.int .i64 a0) (.int .i64 a1) (.int .i64 a2) (.int .i64 a3) (.int .i64 a4) (.int .i64 a5) (.int .i64 a6) (.int .i64 a7) (.int .i64 a8) (.int .i64 x) (.int .i64 y) (.int .i64 z)
  have q' := px (.int .i64 b0) (.int .i64 b1) (.int .i64 b2) (.int .i64 b3) (.int .i64 b4) (.int .i64 b5) (.int .i64 b6) (.int .i64 b7) (.int .i64 b8) (.int .i64 b9) (.int .i64 b10) (.int .i64 b11)
  simp only [List.forIn_cons, List.forIn_nil, Sem.run_bind, (q _).1, (q' _).1, veq_d, Result.andThen_ok, Nat.zero_mul]
  cases h0 : veqB a0 a1 a2 b0 b1 b2 <;> cases h1 : veqB a3 a4 a5 b3 b4 b5 <;> cases h2 : veqB a6 a7 a8 b6 b7 b8 <;> cases h3 : veqB x y z b9 b10 b11 <;>
    simp [(q _).2.1, (q _).2.2.1, (q _).2.2.2, (q' _).2.1, (q' _).2.2.1, (q' _).2.2.2, veq_d, h1, h2, h3]
theorem eql_pat (a0 a1 a2 a3 a4 a5 a6 a7 a8 x y z b0 b1 b2 b3 b4 b5 b6 b7 b8 b9 b10 b11 : Int) (w : World) : (Op.equalIn 10000 40 (tr a0 a1 a2 a3 a4 a5 a6 a7 a8 x y z) (tr b0 b1 b2 b3 b4 b5 b6 b7 b8 b9 b10 b11)).run Try.prog w = .ok ([(a0, a1, a2), (a3, a4, a5), (a6, a7, a8), (x, y, z)] == [(b0, b1, b2), (b3, b4, b5), (b6, b7, b8), (b9, b10, b11)]) w := by
  have hS : Try.prog.underlying 40 = some (.struct (Try.prog.fieldsOf 40)) := by kernel_rfl
  have hp : Try.prog.stoodInHeld 40 = false := by kernel_rfl
  have px : ∀ (c0 c1 c2 c3 c4 c5 c6 c7 c8 c9 c10 c11 : Value) (w : World),
      (part 38 #[c0, c1, c2, c3, c4, c5, c6, c7, c8, c9, c10, c11] 0).run Try.prog w = .ok (.agg #[c0, c1, c2, c3, c4, c5, c6, c7, c8, c9, c10, c11]) w := fun _ _ _ _ _ _ _ _ _ _ _ _ _ => by kernel_rfl
  rw [show (10000 : Nat) = 9999 + 1 from rfl, run_equalIn_agg w 9999 40 _ _ hS hp]
  simp only [Program.fieldsOf, Try.underlying40]
  have h := eq4 9996 a0 a1 a2 a3 a4 a5 a6 a7 a8 x y z b0 b1 b2 b3 b4 b5 b6 b7 b8 b9 b10 b11 w
  generalize ([(a0, a1, a2), (a3, a4, a5), (a6, a7, a8), (x, y, z)] == [(b0, b1, b2), (b3, b4, b5), (b6, b7, b8), (b9, b10, b11)]) = b at h ⊢
  rw [show (9996 + 3 : Nat) = 9999 from rfl] at h
  cases b <;> simp [Op.eqFields, px, h]
theorem eql_patB (a0 a1 a2 a3 a4 a5 a6 a7 a8 x y z b0 b1 b2 b3 b4 b5 b6 b7 b8 b9 b10 b11 : Int) (w : World) : (binOp .eql 40 (tr a0 a1 a2 a3 a4 a5 a6 a7 a8 x y z) (tr b0 b1 b2 b3 b4 b5 b6 b7 b8 b9 b10 b11)).run Try.prog w = .ok (.bool ([(a0, a1, a2), (a3, a4, a5), (a6, a7, a8), (x, y, z)] == [(b0, b1, b2), (b3, b4, b5), (b6, b7, b8), (b9, b10, b11)])) w := by
  rw [run_eql_struct, eql_pat]; rfl




theorem index_pat (a0 a1 a2 a3 a4 a5 a6 a7 a8 x y z : Int) (v : V3) (k : Nat) (h : ([(a0, a1, a2), (a3, a4, a5), (a6, a7, a8), (x, y, z)] : List V3)[k]? = some v) (w : World) : (Instr.index 38 (tr a0 a1 a2 a3 a4 a5 a6 a7 a8 x y z) (.int .i64 k)).run Try.prog w = .ok (vec v.1 v.2.1 v.2.2) w := by
  match k, h with
  | 0, h => obtain rfl := Option.some.inj h; exact (show (Instr.index 38 (tr a0 a1 a2 a3 a4 a5 a6 a7 a8 x y z) (.int .i64 ((0 : Nat) : Int))).run Try.prog w = .ok (vec a0 a1 a2) w by kernel_rfl)
  | 1, h => obtain rfl := Option.some.inj h; exact (show (Instr.index 38 (tr a0 a1 a2 a3 a4 a5 a6 a7 a8 x y z) (.int .i64 ((1 : Nat) : Int))).run Try.prog w = .ok (vec a3 a4 a5) w by kernel_rfl)
  | 2, h => obtain rfl := Option.some.inj h; exact (show (Instr.index 38 (tr a0 a1 a2 a3 a4 a5 a6 a7 a8 x y z) (.int .i64 ((2 : Nat) : Int))).run Try.prog w = .ok (vec a6 a7 a8) w by kernel_rfl)
  | 3, h => obtain rfl := Option.some.inj h; exact (show (Instr.index 38 (tr a0 a1 a2 a3 a4 a5 a6 a7 a8 x y z) (.int .i64 ((3 : Nat) : Int))).run Try.prog w = .ok (vec x y z) w by kernel_rfl)
  | k + 4, h => simp at h

end Go.Proofs.Ytbgpcgimmiinbaa
