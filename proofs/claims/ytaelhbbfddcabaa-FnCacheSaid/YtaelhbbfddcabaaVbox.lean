/- Words of our own for vectors in memory (nothing of the program). -/
import Derived.WalkKit
import Derived.WalkSpells
import Derived.Handy
import Derived.Deep.RegionHeld
import Derived.Deep.QuietTactic
namespace Go.Proofs.Ytaelhbbfddcabaa
open Go.RowKit

theorem far3 {b o k : Nat} {w : World} {x y z : Value} (h : b ≠ k) : (((w.setCell ⟨k, 0, none⟩ x).setCell ⟨k, 1, none⟩ y).setCell ⟨k, 2, none⟩ z).cell? ⟨b, o, none⟩ = w.cell? ⟨b, o, none⟩ := by
  rw [World.cell?_setCell_far _ _ _ _ (fun e => h e.symm), World.cell?_setCell_far _ _ _ _ (fun e => h e.symm), World.cell?_setCell_far _ _ _ _ (fun e => h e.symm)]
theorem far3d {b o k : Nat} {w : World} {x y z : Value} (h : b ≠ k) : (((w.setCell ⟨k, 0, none⟩ x).setCell ⟨k, 1, none⟩ y).setCell ⟨k, 2, none⟩ z).drew.cell? ⟨b, o, none⟩ = w.cell? ⟨b, o, none⟩ := far3 h
theorem size3 {n k : Nat} {w : World} {x y z : Value} (h : n ≤ w.heap.size) : n ≤ (((w.setCell ⟨k, 0, none⟩ x).setCell ⟨k, 1, none⟩ y).setCell ⟨k, 2, none⟩ z).heap.size := by simpa using h
/-- a vector in block k, which may be written -/
def Vbox (w : World) (k : Nat) (x y z : Int) : Prop :=
  w.cell? ⟨k, 0, none⟩ = some (.int .i64 x) ∧ w.cell? ⟨k, 1, none⟩ = some (.int .i64 y) ∧ w.cell? ⟨k, 2, none⟩ = some (.int .i64 z) ∧
    w.frozen? ⟨k, 0, none⟩ = false ∧ w.frozen? ⟨k, 1, none⟩ = false ∧ w.frozen? ⟨k, 2, none⟩ = false
section
variable {w w' : World} {k : Nat} {x y z : Int}
theorem Vbox.lt (h : Vbox w k x y z) : k < w.heap.size := World.block_lt_of_cell? w _ h.1
theorem Vbox.keep (h : Vbox w k x y z) (e : w'.heap[k]? = w.heap[k]?) : Vbox w' k x y z :=
  ⟨(World.cell?_of_block (a := ⟨k, 0, none⟩) e).trans h.1, (World.cell?_of_block (a := ⟨k, 1, none⟩) e).trans h.2.1, (World.cell?_of_block (a := ⟨k, 2, none⟩) e).trans h.2.2.1,
    (World.frozen?_of_block (a := ⟨k, 0, none⟩) e).trans h.2.2.2.1, (World.frozen?_of_block (a := ⟨k, 1, none⟩) e).trans h.2.2.2.2.1, (World.frozen?_of_block (a := ⟨k, 2, none⟩) e).trans h.2.2.2.2.2⟩
theorem Vbox.later (h : Vbox w k x y z) (hb : Below w.heap.size w w') : Vbox w' k x y z := h.keep (hb.block k h.lt)
theorem Vbox.alloc (h : Vbox w k x y z) (o : Obj) : Vbox (w.alloc o) k x y z := h.keep (Below.heap_alloc w o k h.lt)
theorem Vbox.drew (h : Vbox w k x y z) : Vbox w.drew k x y z := h
theorem Vbox.drewN (h : Vbox w k x y z) (n : Nat) : Vbox (w.drewN n) k x y z := h
theorem Vbox.new (w : World) (x y z : Int) (t : TypeId) : Vbox (w.alloc (.cells #[.int .i64 x, .int .i64 y, .int .i64 z] t)) w.heap.size x y z :=
  ⟨by simp [go_sem], by simp [go_sem], by simp [go_sem], World.frozen?_alloc_new .., World.frozen?_alloc_new .., World.frozen?_alloc_new ..⟩
theorem Vbox.new1 (w : World) (o : Obj) (x y z : Int) (t : TypeId) : Vbox ((w.alloc o).alloc (.cells #[.int .i64 x, .int .i64 y, .int .i64 z] t)) (w.heap.size + 1) x y z := by
  have h := Vbox.new (w.alloc o) x y z t
  rwa [World.size_alloc] at h
theorem Vbox.new2 (w : World) (o o' : Obj) (x y z : Int) (t : TypeId) : Vbox (((w.alloc o).alloc o').alloc (.cells #[.int .i64 x, .int .i64 y, .int .i64 z] t)) (w.heap.size + 2) x y z := by
  have h := Vbox.new ((w.alloc o).alloc o') x y z t
  rwa [World.size_alloc, World.size_alloc] at h
theorem Vbox.far (h : Vbox w k x y z) {g i : Nat} (hk : k ≠ g) (v : Value) : Vbox (w.setCell ⟨g, i, none⟩ v) k x y z := h.keep (Below.heap_setCell w _ v k hk)
theorem Vbox.far3 (h : Vbox w k x y z) {g : Nat} (hk : k ≠ g) (v v' v'' : Value) : Vbox (((w.setCell ⟨g, 0, none⟩ v).setCell ⟨g, 1, none⟩ v').setCell ⟨g, 2, none⟩ v'') k x y z := ((h.far hk v).far hk v').far hk v''
theorem Vbox.put (h : Vbox w k x y z) (a b c : Int) : Vbox (((w.setCell ⟨k, 0, none⟩ (.int .i64 a)).setCell ⟨k, 1, none⟩ (.int .i64 b)).setCell ⟨k, 2, none⟩ (.int .i64 c)) k a b c := by
  obtain ⟨h0, h1, h2, f0, f1, f2⟩ := h
  have e1 : (w.setCell ⟨k, 0, none⟩ (.int .i64 a)).cell? ⟨k, 1, none⟩ = some (.int .i64 y) := (World.cell?_setCell_other w _ _ _ (by simp)).trans h1
  have e2 : ((w.setCell ⟨k, 0, none⟩ (.int .i64 a)).setCell ⟨k, 1, none⟩ (.int .i64 b)).cell? ⟨k, 2, none⟩ = some (.int .i64 z) := (World.cell?_setCell_other _ _ _ _ (by simp)).trans ((World.cell?_setCell_other w _ _ _ (by simp)).trans h2)
  refine ⟨?_, ?_, World.cell?_setCell_same _ _ _ e2, by simpa using f0, by simpa using f1, by simpa using f2⟩
  · rw [World.cell?_setCell_other _ _ _ _ (by simp), World.cell?_setCell_other _ _ _ _ (by simp)]
    exact World.cell?_setCell_same w _ _ h0
  · rw [World.cell?_setCell_other _ _ _ _ (by simp)]
    exact World.cell?_setCell_same _ _ _ e1
end
theorem bset3 {B k : Nat} {a w : World} {x y z : Value} (h : Below B a w) (hk : B ≤ k) : Below B a (((w.setCell ⟨k, 0, none⟩ x).setCell ⟨k, 1, none⟩ y).setCell ⟨k, 2, none⟩ z) :=
  ((h.setCell (p := ⟨k, 0, none⟩) hk x).setCell (p := ⟨k, 1, none⟩) hk y).setCell (p := ⟨k, 2, none⟩) hk z
theorem bcall {B : Nat} {a w w' : World} (h : Below B a w) (hb : Below w.heap.size w w') (hB : B ≤ w.heap.size) : Below B a w' := h.trans (hb.mono hB)
theorem bcell {W w1 : World} (hb : Below W.heap.size W w1) : (∀ b o, b < W.heap.size → w1.cell? ⟨b, o, none⟩ = W.cell? ⟨b, o, none⟩) ∧ (∀ b o, b < W.heap.size → w1.frozen? ⟨b, o, none⟩ = W.frozen? ⟨b, o, none⟩) :=
  ⟨fun b o h => hb.cell (p := ⟨b, o, none⟩) h, fun b o h => hb.frozen (p := ⟨b, o, none⟩) h⟩
end Go.Proofs.Ytaelhbbfddcabaa
