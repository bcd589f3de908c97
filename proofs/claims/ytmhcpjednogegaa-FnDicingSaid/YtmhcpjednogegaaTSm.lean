/- Contracts of SameTriangle: the program and its model. -/
import Derived.Test.YtmhcpjednogegaaProg
import Derived.Test.YtmhcpjednogegaaInts
import Derived.Test.YtmhcpjednogegaaVbox
import Derived.Test.YtmhcpjednogegaaVec
import Derived.Test.YtmhcpjednogegaaHeld
import Derived.Test.YtmhcpjednogegaaArr
import Derived.Test.YtmhcpjednogegaaTr
import Derived.Test.YtmhcpjednogegaaMem
import Derived.Test.YtmhcpjednogegaaFlat
import Derived.Test.YtmhcpjednogegaaRowC
import Derived.Test.YtmhcpjednogegaaPat
import Derived.Test.YtmhcpjednogegaaCam
import Derived.Test.YtmhcpjednogegaaCPrj
import Derived.Test.YtmhcpjednogegaaTri
import Derived.WalkKit
import Derived.WalkSpells
import Derived.WalkLawsBesides
import Derived.Lib.Hide
import Derived.Deep.RegionHeld3
import Derived.Deep.QuietTactic
import Derived.BigQuiet
import Derived.Handy
import Derived.Deep.DeepCutAuto
import Derived.Laws.StructEq
namespace Go.Proofs.Ytmhcpjednogegaa
open Go.RowKit

/-- two triangles are equal -/
def sameT (a0 a1 a2 a3 a4 a5 a6 a7 a8 b0 b1 b2 b3 b4 b5 b6 b7 b8 : Int) : Bool := veqB a0 a1 a2 b0 b1 b2 && veqB a3 a4 a5 b3 b4 b5 && veqB a6 a7 a8 b6 b7 b8
theorem veq_d3 (d : Nat) (a b c p q r : Int) (w : World) : (Op.equalIn (d + 2) 27 (vec a b c) (vec p q r)).run Try.prog w = .ok (veqB a b c p q r) w := by
  have u3 := Try.underlying3
  have a3 := Try.isAgg3
  have z3 := Try.sizeOf3
  have hS : Try.prog.underlying 27 = some (.struct (Try.prog.fieldsOf 27)) := by kernel_rfl
  have hp : Try.prog.stoodInHeld 27 = false := by kernel_rfl
  rw [show (d + 2 : Nat) = (d + 1) + 1 from rfl, run_equalIn_agg w (d + 1) 27 _ _ hS hp]
  simp only [Program.fieldsOf, Try.underlying27]
  unfold veqB
  go_simp
  by_cases h1 : a = p <;> by_cases h2 : b = q <;> by_cases h3 : c = r <;> simp [h1, h2, h3]
theorem eq3 (d : Nat) (a0 a1 a2 a3 a4 a5 a6 a7 a8 b0 b1 b2 b3 b4 b5 b6 b7 b8 : Int) (w : World) : (Op.equalIn (d + 3) 41 (mat a0 a1 a2 a3 a4 a5 a6 a7 a8) (mat b0 b1 b2 b3 b4 b5 b6 b7 b8)).run Try.prog w = .ok (sameT a0 a1 a2 a3 a4 a5 a6 a7 a8 b0 b1 b2 b3 b4 b5 b6 b7 b8) w := by
  have hsz : ∀ w, (sizeOf 27).run Try.prog w = .ok 3 w := fun w => by kernel_rfl
  have px : ∀ (c0 c1 c2 c3 c4 c5 c6 c7 c8 : Value) (w : World),
      (part 27 #[c0, c1, c2, c3, c4, c5, c6, c7, c8] 0).run Try.prog w = .ok (.agg #[c0, c1, c2]) w ∧
      (part 27 #[c0, c1, c2, c3, c4, c5, c6, c7, c8] 3).run Try.prog w = .ok (.agg #[c3, c4, c5]) w ∧
      (part 27 #[c0, c1, c2, c3, c4, c5, c6, c7, c8] 6).run Try.prog w = .ok (.agg #[c6, c7, c8]) w := fun _ _ _ _ _ _ _ _ _ _ =>
    ⟨by kernel_rfl, by kernel_rfl, by kernel_rfl⟩
  unfold sameT
  rw [show (d + 3 : Nat) = (d + 2) + 1 from rfl, Op.equalIn]
  have hr : List.range' 0 3 1 = [0, 1, 2] := by rfl
  simp only [Sem.run_bind, run_underlying Try.underlying41, Result.andThen_ok, hsz, Std.Legacy.Range.forIn_eq_forIn_range', Std.Legacy.Range.size, Nat.sub_zero, Nat.add_sub_cancel, Nat.div_one, hr]
  have q := px (.int .i64 a0) (.int .i64 a1) (.int .i64 a2) (.int .i64 a3) (.int .i64 a4) (.int .i64 a5) (.int .i64 a6) (.int .i64 a7) (.int .i64 a8)
  have q' := px (.int .i64 b0) (.int .i64 b1) (.int .i64 b2) (.int .i64 b3) (.int .i64 b4) (.int .i64 b5) (.int .i64 b6) (.int .i64 b7) (.int .i64 b8)
  simp only [List.forIn_cons, List.forIn_nil, Sem.run_bind, (q _).1, (q' _).1, veq_d3, Result.andThen_ok, Nat.zero_mul]
  cases h0 : veqB a0 a1 a2 b0 b1 b2 <;> cases h1 : veqB a3 a4 a5 b3 b4 b5 <;> cases h2 : veqB a6 a7 a8 b6 b7 b8 <;>
    simp [(q _).2.1, (q _).2.2, (q' _).2.1, (q' _).2.2, veq_d3, h1, h2]
theorem eql_tri (a0 a1 a2 a3 a4 a5 a6 a7 a8 b0 b1 b2 b3 b4 b5 b6 b7 b8 : Int) (w : World) : (Op.equalIn 10000 43 (mat a0 a1 a2 a3 a4 a5 a6 a7 a8) (mat b0 b1 b2 b3 b4 b5 b6 b7 b8)).run Try.prog w = .ok (sameT a0 a1 a2 a3 a4 a5 a6 a7 a8 b0 b1 b2 b3 b4 b5 b6 b7 b8) w := by
  have hS : Try.prog.underlying 43 = some (.struct (Try.prog.fieldsOf 43)) := by kernel_rfl
  have hp : Try.prog.stoodInHeld 43 = false := by kernel_rfl
  have px : ∀ (c0 c1 c2 c3 c4 c5 c6 c7 c8 : Value) (w : World),
      (part 41 #[c0, c1, c2, c3, c4, c5, c6, c7, c8] 0).run Try.prog w = .ok (.agg #[c0, c1, c2, c3, c4, c5, c6, c7, c8]) w := fun _ _ _ _ _ _ _ _ _ _ => by kernel_rfl
  rw [show (10000 : Nat) = 9999 + 1 from rfl, run_equalIn_agg w 9999 43 _ _ hS hp]
  simp only [Program.fieldsOf, Try.underlying43]
  have h := eq3 9996 a0 a1 a2 a3 a4 a5 a6 a7 a8 b0 b1 b2 b3 b4 b5 b6 b7 b8 w
  generalize sameT a0 a1 a2 a3 a4 a5 a6 a7 a8 b0 b1 b2 b3 b4 b5 b6 b7 b8 = b at h ⊢
  rw [show (9996 + 3 : Nat) = 9999 from rfl] at h
  cases b <;> simp [Op.eqFields, px, h]
theorem eql_triB (a0 a1 a2 a3 a4 a5 a6 a7 a8 b0 b1 b2 b3 b4 b5 b6 b7 b8 : Int) (w : World) : (binOp .eql 43 (mat a0 a1 a2 a3 a4 a5 a6 a7 a8) (mat b0 b1 b2 b3 b4 b5 b6 b7 b8)).run Try.prog w = .ok (.bool (sameT a0 a1 a2 a3 a4 a5 a6 a7 a8 b0 b1 b2 b3 b4 b5 b6 b7 b8)) w := by
  rw [run_eql_struct, eql_tri]; rfl
theorem eql_tri3B (a0 a1 a2 a3 a4 a5 a6 a7 a8 b0 b1 b2 b3 b4 b5 b6 b7 b8 : Int) (w : World) : (binOp .eql 41 (mat a0 a1 a2 a3 a4 a5 a6 a7 a8) (mat b0 b1 b2 b3 b4 b5 b6 b7 b8)).run Try.prog w = .ok (.bool (sameT a0 a1 a2 a3 a4 a5 a6 a7 a8 b0 b1 b2 b3 b4 b5 b6 b7 b8)) w := by
  rw [run_eql_struct, show (10000 : Nat) = 9997 + 3 from rfl, eq3]; rfl


end Go.Proofs.Ytmhcpjednogegaa
