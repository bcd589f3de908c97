/- Words for patches: four vectors in a block of twelve cells. -/
import Derived.Test.YtolinlcihddkoabProg
import Derived.Test.YtolinlcihddkoabInts
import Derived.Test.YtolinlcihddkoabVbox
import Derived.Test.YtolinlcihddkoabVec
import Derived.Test.YtolinlcihddkoabHeld
import Derived.Test.YtolinlcihddkoabArr
import Derived.Test.YtolinlcihddkoabTr
import Derived.Test.YtolinlcihddkoabMem
import Derived.Test.YtolinlcihddkoabFlat
import Derived.Test.YtolinlcihddkoabRowC
import Derived.WalkKit
import Derived.WalkSpells
import Derived.WalkLawsBesides
import Derived.Lib.Hide
import Derived.Deep.RegionHeld3
import Derived.Deep.QuietTactic
import Derived.BigQuiet
import Derived.Handy
import Derived.Deep.DeepCutAuto
namespace Go.Proofs.Ytolinlcihddkoab
open Go.RowKit

/-- the first k done, the rest as it was -/
def partA {α : Type} (xs ys : List α) (k : Nat) : List α := ys.take k ++ xs.drop k
theorem partA_zero {α : Type} (xs ys : List α) : partA xs ys 0 = xs := by simp [partA]
theorem partA_all {α : Type} {xs ys : List α} (h : xs.length = ys.length) : partA xs ys ys.length = ys := by unfold partA; rw [List.take_length, List.drop_eq_nil_of_le (by omega), List.append_nil]
theorem partA_at {α : Type} {xs ys : List α} (h : xs.length = ys.length) {k : Nat} (hk : k < xs.length) : (partA xs ys k)[k]? = some xs[k] := by
  unfold partA
  rw [List.getElem?_append_right (by simp; omega), List.length_take, Nat.min_eq_left (by omega), Nat.sub_self, List.getElem?_drop, Nat.add_zero, List.getElem?_eq_getElem hk]
theorem partA_step {α : Type} {xs ys : List α} (h : xs.length = ys.length) {k : Nat} (hk : k < ys.length) : (partA xs ys k).set k ys[k] = partA xs ys (k + 1) := by
  unfold partA
  have h1 : (List.take k ys).length = k := by rw [List.length_take]; omega
  rw [List.set_append_right _ _ (by omega), h1, Nat.sub_self, List.drop_eq_getElem_cons (show k < xs.length by omega), List.set_cons_zero, List.take_succ_eq_append_getElem hk, List.append_assoc, List.singleton_append]
theorem Mbox.v3 {w : World} {b : Nat} {xs : List V3} (h : Mbox w b (xs.flatMap vg)) {k : Nat} {v : V3} (e : xs[k]? = some v) :
    w.cell? ⟨b, k * 3, none⟩ = some (.int .i64 v.1) ∧ w.cell? ⟨b, k * 3 + 1, none⟩ = some (.int .i64 v.2.1) ∧ w.cell? ⟨b, k * 3 + 2, none⟩ = some (.int .i64 v.2.2) := by
  obtain ⟨hk, rfl⟩ := List.getElem?_eq_some_iff.1 e
  have g := fun j hj => flat_get (g := vg) vg_len xs k j hk hj
  exact ⟨h.c (k * 3) ((g 0 (by omega)).trans rfl), h.c (k * 3 + 1) ((g 1 (by omega)).trans rfl), h.c (k * 3 + 2) ((g 2 (by omega)).trans rfl)⟩
theorem Mbox.v3f {w : World} {b : Nat} {xs : List V3} (h : Mbox w b (xs.flatMap vg)) {k : Nat} {v : V3} (e : xs[k]? = some v) :
    w.frozen? ⟨b, k * 3, none⟩ = false ∧ w.frozen? ⟨b, k * 3 + 1, none⟩ = false ∧ w.frozen? ⟨b, k * 3 + 2, none⟩ = false := by
  obtain ⟨hk, rfl⟩ := List.getElem?_eq_some_iff.1 e
  have g := fun j hj => flat_get (g := vg) vg_len xs k j hk hj
  exact ⟨h.f (k * 3) ((g 0 (by omega)).trans rfl), h.f (k * 3 + 1) ((g 1 (by omega)).trans rfl), h.f (k * 3 + 2) ((g 2 (by omega)).trans rfl)⟩
theorem Held.putV {w W : World} {bs : List (Nat × List Value)} {b : Nat} {xs : List V3} (h : Held w W ((b, xs.flatMap vg) :: bs)) (hg : w.heap.size ≤ b) (hne : ∀ p ∈ bs, p.1 ≠ b) (k : Nat) (v : V3) :
    Held w (((W.setCell ⟨b, k * 3, none⟩ (.int .i64 v.1)).setCell ⟨b, k * 3 + 1, none⟩ (.int .i64 v.2.1)).setCell ⟨b, k * 3 + 2, none⟩ (.int .i64 v.2.2)) ((b, (xs.set k v).flatMap vg) :: bs) := by
  rw [← vg_set]
  exact ((h.put hg hne (k * 3) _).put hg hne (k * 3 + 1) _).put hg hne (k * 3 + 2) _
/-- a vector, each component clamped -/
def ccV (v : V3) : V3 := (cc v.1, cc v.2.1, cc v.2.2)
def okV (v : V3) : Bool := okB v.1 v.2.1 v.2.2
def okP (l : List V3) : Bool := l.all okV
theorem okV_eq (v : V3) : (v == ccV v) = okV v := by
  obtain ⟨x, y, z⟩ := v
  rw [Bool.eq_iff_iff, beq_iff_eq]
  show ((x, y, z) = (cc x, cc y, cc z)) ↔ veqB x y z (cc x) (cc y) (cc z) = true
  simp [veqB, and_assoc]
theorem okP_eq : ∀ l : List V3, (l == l.map ccV) = okP l
  | [] => rfl
  | a :: l => by
    have := okP_eq l
    rw [List.map_cons, List.cons_beq_cons, this, okV_eq]; rfl
theorem okP_take {l : List V3} {k : Nat} {v : V3} (h : okP (l.take k) = true) (hv : l[k]? = some v) (h1 : okV v = true) : okP (l.take (k + 1)) = true := by
  unfold okP at *
  rw [List.take_add_one, hv, List.all_append, h]
  simp [h1]
theorem okP_bad {l : List V3} {k : Nat} {v : V3} (hv : l[k]? = some v) (h : okV v = false) : okP l = false := by
  rw [Bool.eq_false_iff]
  intro e
  have := List.all_eq_true.1 e v (List.mem_of_getElem? hv)
  rw [h] at this; cases this
theorem okP_mem {l : List V3} (h : okP l = true) {v : V3} (hv : v ∈ l) : okV v = true := List.all_eq_true.1 h v hv
theorem Mbox.range12 {w : World} {k : Nat} {cs : List Value} (h : Mbox w k cs) : w.rangeAt k 0 cs := fun j v hv => by
  rw [Nat.zero_add]
  exact (h j v hv).1
end Go.Proofs.Ytolinlcihddkoab
