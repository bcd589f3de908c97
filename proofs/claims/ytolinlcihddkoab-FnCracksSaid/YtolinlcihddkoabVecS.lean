/- Contracts of the laws own helpers over slices of vectors. -/
import Derived.Test.YtolinlcihddkoabProg
import Derived.Test.YtolinlcihddkoabInts
import Derived.Test.YtolinlcihddkoabVbox
import Derived.Test.YtolinlcihddkoabVec
import Derived.Test.YtolinlcihddkoabHeld
import Derived.Test.YtolinlcihddkoabMem
import Derived.Test.YtolinlcihddkoabFlat
import Derived.Test.YtolinlcihddkoabRowC
import Derived.WalkKit
import Derived.WalkSpells
import Derived.WalkLawsBesides
import Derived.Lib.Hide
import Derived.Deep.RegionHeld3
import Derived.Deep.QuietTactic
import Derived.BigQuiet
import Derived.Handy
import Derived.Deep.DeepCutAuto
import Derived.OwnWalk
namespace Go.Proofs.Ytolinlcihddkoab
open Go.RowKit

theorem infoVec : (Try.prog.info? 27).map (fun i => (i.zero, i.size, i.bytes)) = some (some (vec 0 0 0), 3, 24) := by kernel_rfl
theorem made3 (z : Value) (n : Nat) : (madeCells #[z, z, z] n).toList = List.replicate n z := by
  refine List.eq_replicate_iff.2 ⟨by simp [madeCells], fun b hb => ?_⟩
  simp [madeCells] at hb
  obtain ⟨i, _, rfl⟩ := hb
  have : i % 3 = 0 ∨ i % 3 = 1 ∨ i % 3 = 2 := by omega
  rcases this with h | h | h <;> rw [h] <;> rfl
theorem replV (n : Nat) : (List.replicate n ((0, 0, 0) : V3)).flatMap vg = List.replicate (n * 3) (.int .i64 0) := by
  induction n with
  | zero => rfl
  | succ n ih => rw [List.replicate_succ, List.flatMap_cons, ih, show (n + 1) * 3 = n * 3 + 1 + 1 + 1 by omega, List.replicate_succ, List.replicate_succ, List.replicate_succ]; rfl
def halfA {α : Type} (z : α) (xs : List α) (k : Nat) : List α := xs.take k ++ List.replicate (xs.length - k) z
theorem halfA_zero {α : Type} (z : α) (xs : List α) : halfA z xs 0 = List.replicate xs.length z := by simp [halfA]
theorem halfA_all {α : Type} (z : α) (xs : List α) : halfA z xs xs.length = xs := by simp [halfA]
theorem halfA_len {α : Type} (z : α) (xs : List α) (k : Nat) (h : k ≤ xs.length) : (halfA z xs k).length = xs.length := by simp [halfA]; omega
theorem halfA_step {α : Type} (z : α) (xs : List α) (k : Nat) (h : k < xs.length) : (halfA z xs k).set k xs[k] = halfA z xs (k + 1) := by
  unfold halfA
  rw [List.take_succ_eq_append_getElem h, List.set_append_right _ _ (by simp; omega)]
  have e : xs.length - k = (xs.length - (k + 1)) + 1 := by omega
  rw [e, List.replicate_succ]
  simp only [List.length_take, Nat.min_eq_left (Nat.le_of_lt h), Nat.sub_self, List.set_cons_zero, List.append_assoc, List.cons_append, List.nil_append]
/-- three cells of a row of vectors -/
theorem own_vec {w : World} {base : Nat} {e : TypeId} {g n cap : Nat} {xs : List V3} (h : w.ownsRow base e 3 (.slice (some ⟨g, 0, none⟩) n cap) n (xs.flatMap vg)) (hn : xs.length = n) {k : Nat} (hk : k < n) :
    ∃ x y z : Int, w.cell? ⟨g, k * 3, none⟩ = some (.int .i64 x) ∧ w.cell? ⟨g, k * 3 + 1, none⟩ = some (.int .i64 y) ∧ w.cell? ⟨g, k * 3 + 2, none⟩ = some (.int .i64 z) := by
  have hk' : k < xs.length := by omega
  have h0 := h.cellAt (k * 3) (by omega)
  have h1 := h.cellAt (k * 3 + 1) (by omega)
  have h2 := h.cellAt (k * 3 + 2) (by omega)
  rw [← Nat.add_zero (k * 3), flat_get vg_len xs k 0 hk' (by omega)] at h0
  rw [flat_get vg_len xs k 1 hk' (by omega)] at h1
  rw [flat_get vg_len xs k 2 hk' (by omega)] at h2
  exact ⟨_, _, _, h0, h1, h2⟩



end Go.Proofs.Ytolinlcihddkoab
