/- Contracts over slices of integers: HashInts, and the laws' own helpers toIntS, eqIntS. -/
import Derived.Test.YtolinlcihddkoabProg
import Derived.Test.YtolinlcihddkoabInts
import Derived.Test.YtolinlcihddkoabMem
import Derived.WalkKit
import Derived.WalkSpells
import Derived.WalkLawsBesides
import Derived.Lib.Hide
import Derived.BigQuiet
import Derived.Deep.QuietTactic
namespace Go.Proofs.Ytolinlcihddkoab
open Go.RowKit

def hashP (xs : List Int) : Int := xs.foldl (fun h x => (31 * h + clampP x (-1000000000) 1000000000) % 1000003) 17
theorem hashP_bd (xs : List Int) : 0 ≤ hashP xs ∧ hashP xs < 1000003 := by
  unfold hashP
  suffices H : ∀ (xs : List Int) (a : Int), 0 ≤ a → a < 1000003 → 0 ≤ xs.foldl (fun h x => (31 * h + clampP x (-1000000000) 1000000000) % 1000003) a ∧ xs.foldl (fun h x => (31 * h + clampP x (-1000000000) 1000000000) % 1000003) a < 1000003 from H xs 17 (by omega) (by omega)
  intro xs
  induction xs with
  | nil => intro a h0 h1; exact ⟨h0, h1⟩
  | cons x r ih => intro a h0 h1; exact ih _ (Int.emod_nonneg _ (by omega)) (Int.emod_lt_of_pos _ (by omega))
theorem hashP_step (xs : List Int) (k : Nat) (h : k < xs.length) : hashP (xs.take (k + 1)) = (31 * hashP (xs.take k) + clampP xs[k] (-1000000000) 1000000000) % 1000003 := by
  unfold hashP
  rw [List.take_succ_eq_append_getElem h, List.foldl_append]; rfl
abbrev I64 : Int → Value := Value.int .i64
theorem infoInt : (Try.prog.info? 3).map (fun i => (i.zero, i.size, i.bytes)) = some (some (.int .i64 0), 1, 8) := by kernel_rfl







end Go.Proofs.Ytolinlcihddkoab
