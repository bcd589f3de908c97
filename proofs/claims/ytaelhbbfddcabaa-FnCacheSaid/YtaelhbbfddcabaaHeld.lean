/- Words of our own for blocks of memory of any number of cells (nothing of the program). -/
import Derived.WalkKit
import Derived.WalkSpells
import Derived.Handy
import Derived.Deep.RegionHeld
import Derived.Deep.QuietTactic
import Derived.WalkSmall
namespace Go.Proofs.Ytaelhbbfddcabaa
open Go.RowKit

/-- block k holds the cells vs, and each may be written -/
def Mbox (w : World) (k : Nat) (vs : List Value) : Prop := ∀ i v, vs[i]? = some v → w.cell? ⟨k, i, none⟩ = some v ∧ w.frozen? ⟨k, i, none⟩ = false
section
variable {w w' : World} {k : Nat} {vs : List Value}
theorem Mbox.c (h : Mbox w k vs) (i : Nat) {v : Value} (e : vs[i]? = some v := by rfl) : w.cell? ⟨k, i, none⟩ = some v := (h i v e).1
theorem Mbox.f (h : Mbox w k vs) (i : Nat) {v : Value} (e : vs[i]? = some v := by rfl) : w.frozen? ⟨k, i, none⟩ = false := (h i v e).2
theorem Mbox.lt (h : Mbox w k vs) {v : Value} (e : vs[0]? = some v := by rfl) : k < w.heap.size := World.block_lt_of_cell? w _ (h.c 0 e)
theorem Mbox.keep (h : Mbox w k vs) (e : k < w.heap.size → w'.heap[k]? = w.heap[k]?) : Mbox w' k vs := fun i v hv =>
  have hl := World.block_lt_of_cell? w _ (h i v hv).1
  ⟨(World.cell?_of_block (a := ⟨k, i, none⟩) (e hl)).trans (h i v hv).1, (World.frozen?_of_block (a := ⟨k, i, none⟩) (e hl)).trans (h i v hv).2⟩
theorem Mbox.later (h : Mbox w k vs) (hb : Below w.heap.size w w') : Mbox w' k vs := h.keep fun hl => hb.block k hl
theorem Mbox.alloc (h : Mbox w k vs) (o : Obj) : Mbox (w.alloc o) k vs := h.keep fun hl => Below.heap_alloc w o k hl
theorem Mbox.drew (h : Mbox w k vs) : Mbox w.drew k vs := h
theorem Mbox.drewN (h : Mbox w k vs) (n : Nat) : Mbox (w.drewN n) k vs := h
theorem Mbox.far (h : Mbox w k vs) {g i : Nat} (hk : k ≠ g) (v : Value) : Mbox (w.setCell ⟨g, i, none⟩ v) k vs := h.keep fun _ => Below.heap_setCell w _ v k hk
theorem Mbox.new (w : World) (cs : Array Value) (t : TypeId) : Mbox (w.alloc (.cells cs t)) w.heap.size cs.toList := fun i v hv =>
  ⟨by rw [World.cell?_alloc_new]; simpa using hv, World.frozen?_alloc_new ..⟩
theorem Mbox.put (h : Mbox w k vs) (i : Nat) (v : Value) : Mbox (w.setCell ⟨k, i, none⟩ v) k (vs.set i v) := fun j u hu => by
  by_cases e : i = j
  · subst e
    have hl : i < vs.length := by
      have := (List.getElem?_eq_some_iff.1 hu).1
      simpa using this
    rw [List.getElem?_set_self hl] at hu
    injection hu with hu
    subst hu
    exact ⟨World.cell?_setCell_same _ _ _ (h i _ (List.getElem?_eq_getElem hl)).1, by rw [World.frozen?_setCell]; exact (h i _ (List.getElem?_eq_getElem hl)).2⟩
  · rw [List.getElem?_set_ne e] at hu
    exact ⟨(World.cell?_setCell_other w _ _ _ (by simp)).trans (h j u hu).1, by rw [World.frozen?_setCell]; exact (h j u hu).2⟩
end
/-- the blocks that a call has made and holds on to; nothing below the world it began in has turned -/
def Held (w W : World) (bs : List (Nat × List Value)) : Prop := Below w.heap.size w W ∧ ∀ (i : Nat) (k : Nat) (vs : List Value), bs[i]? = some (k, vs) → Mbox W k vs
section
variable {w W W' : World} {bs : List (Nat × List Value)} {k : Nat} {vs : List Value}
theorem Held.nil (w : World) : Held w w [] := ⟨Below.refl _ _, fun i k vs h => by simp at h⟩
theorem Held.below (h : Held w W bs) : Below w.heap.size w W := h.1
theorem Held.size (h : Held w W bs) : w.heap.size ≤ W.heap.size := h.1.size
theorem Held.box (h : Held w W bs) (i : Nat) (e : bs[i]? = some (k, vs) := by rfl) : Mbox W k vs := h.2 i k vs e
theorem Held.later (h : Held w W bs) (hb : Below W.heap.size W W') : Held w W' bs := ⟨h.1.trans (hb.mono h.1.size), fun i k vs e => (h.2 i k vs e).later hb⟩
theorem Held.drew (h : Held w W bs) : Held w W.drew bs := ⟨h.1.drew, fun i k vs e => (h.2 i k vs e).drew⟩
theorem Held.drewN (h : Held w W bs) (n : Nat) : Held w (W.drewN n) bs := ⟨below_drewN h.1 n, fun i k vs e => (h.2 i k vs e).drewN n⟩
theorem Held.alloc (h : Held w W bs) (o : Obj) : Held w (W.alloc o) bs := ⟨h.1.alloc h.1.size o, fun i k vs e => (h.2 i k vs e).alloc o⟩
/-- a new block, kept too -/
theorem Held.new (h : Held w W bs) (cs : Array Value) (t : TypeId) : Held w (W.alloc (.cells cs t)) ((W.heap.size, cs.toList) :: bs) := by
  refine ⟨h.1.alloc h.1.size _, fun i k vs e => ?_⟩
  match i, e with
  | 0, e =>
    simp only [List.getElem?_cons_zero, Option.some.injEq, Prod.mk.injEq] at e
    obtain ⟨rfl, rfl⟩ := e
    exact Mbox.new W cs t
  | i + 1, e => exact (h.2 i k vs (by simpa using e)).alloc _
theorem Held.tail (h : Held w W ((k, vs) :: bs)) : Held w W bs := ⟨h.1, fun i k vs e => h.2 (i + 1) k vs (by simpa using e)⟩
theorem Held.cons (h : Held w W bs) (m : Mbox W k vs) : Held w W ((k, vs) :: bs) := ⟨h.1, fun i k' vs' e => by
  match i, e with
  | 0, e =>
    simp only [List.getElem?_cons_zero, Option.some.injEq, Prod.mk.injEq] at e
    obtain ⟨rfl, rfl⟩ := e
    exact m
  | i + 1, e => exact h.2 i k' vs' (by simpa using e)⟩
theorem Held.pick (h : Held w W bs) {cs : List (Nat × List Value)} (e : ∀ p ∈ cs, p ∈ bs) : Held w W cs := ⟨h.1, fun i k vs hi => by
  obtain ⟨j, hj⟩ := List.mem_iff_getElem?.1 (e _ (List.mem_of_getElem? hi))
  exact h.2 j k vs hj⟩
/-- a store into a block that is not among those kept -/
theorem Held.far (h : Held w W bs) {g i : Nat} (hg : w.heap.size ≤ g) (hne : ∀ p ∈ bs, p.1 ≠ g) (v : Value) : Held w (W.setCell ⟨g, i, none⟩ v) bs :=
  ⟨h.1.setCell (p := ⟨g, i, none⟩) hg v, fun i k vs e => (h.2 i k vs e).far (hne (k, vs) (List.mem_of_getElem? e)) v⟩
theorem Held.far3 (h : Held w W bs) {g i j l : Nat} (hg : w.heap.size ≤ g) (hne : ∀ p ∈ bs, p.1 ≠ g) (x y z : Value) : Held w (((W.setCell ⟨g, i, none⟩ x).setCell ⟨g, j, none⟩ y).setCell ⟨g, l, none⟩ z) bs :=
  ((h.far hg hne x).far hg hne y).far hg hne z
theorem Held.far6 (h : Held w W bs) {g i j l i' j' l' : Nat} (hg : w.heap.size ≤ g) (hne : ∀ p ∈ bs, p.1 ≠ g) (x y z x' y' z' : Value) : Held w ((((((W.setCell ⟨g, i, none⟩ x).setCell ⟨g, j, none⟩ y).setCell ⟨g, l, none⟩ z).setCell ⟨g, i', none⟩ x').setCell ⟨g, j', none⟩ y').setCell ⟨g, l', none⟩ z') bs :=
  (h.far3 hg hne x y z).far3 hg hne x' y' z'
/-- a store into the block that stands first -/
theorem Held.put (h : Held w W ((k, vs) :: bs)) (hg : w.heap.size ≤ k) (hne : ∀ p ∈ bs, p.1 ≠ k) (i : Nat) (v : Value) : Held w (W.setCell ⟨k, i, none⟩ v) ((k, vs.set i v) :: bs) :=
  (h.tail.far hg hne v).cons ((h.box 0 rfl).put i v)
end
theorem hb_size {W W' : World} (hb : Below W.heap.size W W') : W.heap.size ≤ W'.heap.size := hb.size
end Go.Proofs.Ytaelhbbfddcabaa
