/- Merged texts: Ints Vbox Held Mem Flat RowC KS StrS IntS SS Tok. -/
import Derived.Test.YtlcnjiephbhdaaaProg
import Derived.WalkKit
import Derived.WalkSpells
import Derived.WalkLawsBesides
import Derived.Lib.Hide
import Derived.Handy
import Derived.Deep.RegionHeld
import Derived.Deep.QuietTactic
import Derived.WalkSmall
import Derived.Laws.OwnMore
import Derived.Deep.OwnRows
import Derived.OpenShut
import Derived.Lib.SmallJoins
import Derived.Deep.Slices
import Derived.OwnWalk
import Derived.BigQuiet
import Derived.Laws.IdiomStrings
import Derived.Deep.RegionHeld3
import Derived.ChangeSlices
import Derived.Deep.DeepCutAuto
import Derived.Laws.RangeAny
namespace Go.Proofs.Ytlcnjiephbhdaaa
section
open Go.RowKit

/-- division rounded down; 0 where the divisor is less than 1 -/
def fdivP (a b : Int) : Int := if b < 1 then 0 else a / b
def clampP (n lo hi : Int) : Int := if hi < lo ∨ n < lo then lo else if hi < n then hi else n

theorem ret_int {k : IntKind} {a b : Int} (h : a = b) : Ending.returned (.int k a) = .returned (.int k b) := by rw [h]
theorem ediv_of (a b q r : Int) (hb : 1 ≤ b) (e : b * q + r = a) (h0 : 0 ≤ r) (h1 : r < b) : a / b = q := by
  have := Int.ediv_emod_unique (a := a) (b := b) (r := r) (q := q) (by omega)
  exact (this.2 ⟨by omega, h0, h1⟩).1
theorem fdivP_neg (a b : Int) (hb : 1 ≤ b) (h : a.tmod b < 0) : a.tdiv b - 1 = fdivP a b := by
  unfold fdivP; rw [if_neg (by omega)]
  have h1 := Int.mul_tdiv_add_tmod a b
  have h3 := Int.lt_tmod_of_pos a (b := b) (by omega)
  exact (ediv_of a b _ (a.tmod b + b) hb (by rw [Int.mul_sub]; omega) (by omega) (by omega)).symm
theorem fdivP_pos (a b : Int) (hb : 1 ≤ b) (h : ¬ a.tmod b < 0) : a.tdiv b = fdivP a b := by
  unfold fdivP; rw [if_neg (by omega)]
  have h1 := Int.mul_tdiv_add_tmod a b
  have h3 := Int.tmod_lt_of_pos a (b := b) (by omega)
  exact (ediv_of a b _ (a.tmod b) hb (by omega) (by omega) (by omega)).symm
theorem fdivP_bd (a b : Int) (h0 : -9223372036854775808 ≤ a) (h1 : a ≤ 9223372036854775807) : -9223372036854775808 ≤ fdivP a b ∧ fdivP a b ≤ 9223372036854775807 := by
  unfold fdivP
  split
  · omega
  · have hb : 0 < b := by omega
    have e := Int.mul_ediv_add_emod a b
    have e0 := Int.emod_nonneg a (b := b) (by omega)
    have e1 := Int.emod_lt_of_pos a hb
    by_cases h : 0 ≤ a
    · have := Int.ediv_le_self b h
      have := Int.ediv_nonneg h (b := b) (by omega)
      omega
    · have g : a ≤ a / b := by
        refine (Int.le_ediv_iff_mul_le hb).2 ?_
        have := Int.mul_le_mul_of_nonpos_left (show a ≤ 0 by omega) (show 1 ≤ b by omega)
        omega
      have := Int.ediv_neg_of_neg_of_pos (a := a) (b := b) (by omega) hb
      omega
theorem fdivP_mul (a b : Int) (hb : 1 ≤ b) : b * fdivP a b ≤ a ∧ a < b * fdivP a b + b ∧ a - b * fdivP a b = a % b := by
  unfold fdivP; rw [if_neg (by omega)]
  have e := Int.mul_ediv_add_emod a b
  have e0 := Int.emod_nonneg a (b := b) (by omega)
  have e1 := Int.emod_lt_of_pos a (show 0 < b by omega)
  omega
theorem clampP_bd (n lo hi : Int) (h : lo ≤ hi) : lo ≤ clampP n lo hi ∧ clampP n lo hi ≤ hi := by
  unfold clampP; split <;> (try split) <;> omega




end

section
open Go.RowKit

theorem far3 {b o k : Nat} {w : World} {x y z : Value} (h : b ≠ k) : (((w.setCell ⟨k, 0, none⟩ x).setCell ⟨k, 1, none⟩ y).setCell ⟨k, 2, none⟩ z).cell? ⟨b, o, none⟩ = w.cell? ⟨b, o, none⟩ := by
  rw [World.cell?_setCell_far _ _ _ _ (fun e => h e.symm), World.cell?_setCell_far _ _ _ _ (fun e => h e.symm), World.cell?_setCell_far _ _ _ _ (fun e => h e.symm)]
theorem far3d {b o k : Nat} {w : World} {x y z : Value} (h : b ≠ k) : (((w.setCell ⟨k, 0, none⟩ x).setCell ⟨k, 1, none⟩ y).setCell ⟨k, 2, none⟩ z).drew.cell? ⟨b, o, none⟩ = w.cell? ⟨b, o, none⟩ := far3 h
theorem size3 {n k : Nat} {w : World} {x y z : Value} (h : n ≤ w.heap.size) : n ≤ (((w.setCell ⟨k, 0, none⟩ x).setCell ⟨k, 1, none⟩ y).setCell ⟨k, 2, none⟩ z).heap.size := by simpa using h
/-- a vector in block k, which may be written -/
def Vbox (w : World) (k : Nat) (x y z : Int) : Prop :=
  w.cell? ⟨k, 0, none⟩ = some (.int .i64 x) ∧ w.cell? ⟨k, 1, none⟩ = some (.int .i64 y) ∧ w.cell? ⟨k, 2, none⟩ = some (.int .i64 z) ∧
    w.frozen? ⟨k, 0, none⟩ = false ∧ w.frozen? ⟨k, 1, none⟩ = false ∧ w.frozen? ⟨k, 2, none⟩ = false
section
variable {w w' : World} {k : Nat} {x y z : Int}
theorem Vbox.lt (h : Vbox w k x y z) : k < w.heap.size := World.block_lt_of_cell? w _ h.1
theorem Vbox.keep (h : Vbox w k x y z) (e : w'.heap[k]? = w.heap[k]?) : Vbox w' k x y z :=
  ⟨(World.cell?_of_block (a := ⟨k, 0, none⟩) e).trans h.1, (World.cell?_of_block (a := ⟨k, 1, none⟩) e).trans h.2.1, (World.cell?_of_block (a := ⟨k, 2, none⟩) e).trans h.2.2.1,
    (World.frozen?_of_block (a := ⟨k, 0, none⟩) e).trans h.2.2.2.1, (World.frozen?_of_block (a := ⟨k, 1, none⟩) e).trans h.2.2.2.2.1, (World.frozen?_of_block (a := ⟨k, 2, none⟩) e).trans h.2.2.2.2.2⟩
theorem Vbox.later (h : Vbox w k x y z) (hb : Below w.heap.size w w') : Vbox w' k x y z := h.keep (hb.block k h.lt)
theorem Vbox.alloc (h : Vbox w k x y z) (o : Obj) : Vbox (w.alloc o) k x y z := h.keep (Below.heap_alloc w o k h.lt)
theorem Vbox.drew (h : Vbox w k x y z) : Vbox w.drew k x y z := h
theorem Vbox.drewN (h : Vbox w k x y z) (n : Nat) : Vbox (w.drewN n) k x y z := h
theorem Vbox.new (w : World) (x y z : Int) (t : TypeId) : Vbox (w.alloc (.cells #[.int .i64 x, .int .i64 y, .int .i64 z] t)) w.heap.size x y z :=
  ⟨by simp [go_sem], by simp [go_sem], by simp [go_sem], World.frozen?_alloc_new .., World.frozen?_alloc_new .., World.frozen?_alloc_new ..⟩
theorem Vbox.new1 (w : World) (o : Obj) (x y z : Int) (t : TypeId) : Vbox ((w.alloc o).alloc (.cells #[.int .i64 x, .int .i64 y, .int .i64 z] t)) (w.heap.size + 1) x y z := by
  have h := Vbox.new (w.alloc o) x y z t
  rwa [World.size_alloc] at h
theorem Vbox.new2 (w : World) (o o' : Obj) (x y z : Int) (t : TypeId) : Vbox (((w.alloc o).alloc o').alloc (.cells #[.int .i64 x, .int .i64 y, .int .i64 z] t)) (w.heap.size + 2) x y z := by
  have h := Vbox.new ((w.alloc o).alloc o') x y z t
  rwa [World.size_alloc, World.size_alloc] at h
theorem Vbox.far (h : Vbox w k x y z) {g i : Nat} (hk : k ≠ g) (v : Value) : Vbox (w.setCell ⟨g, i, none⟩ v) k x y z := h.keep (Below.heap_setCell w _ v k hk)
theorem Vbox.far3 (h : Vbox w k x y z) {g : Nat} (hk : k ≠ g) (v v' v'' : Value) : Vbox (((w.setCell ⟨g, 0, none⟩ v).setCell ⟨g, 1, none⟩ v').setCell ⟨g, 2, none⟩ v'') k x y z := ((h.far hk v).far hk v').far hk v''
theorem Vbox.put (h : Vbox w k x y z) (a b c : Int) : Vbox (((w.setCell ⟨k, 0, none⟩ (.int .i64 a)).setCell ⟨k, 1, none⟩ (.int .i64 b)).setCell ⟨k, 2, none⟩ (.int .i64 c)) k a b c := by
  obtain ⟨h0, h1, h2, f0, f1, f2⟩ := h
  have e1 : (w.setCell ⟨k, 0, none⟩ (.int .i64 a)).cell? ⟨k, 1, none⟩ = some (.int .i64 y) := (World.cell?_setCell_other w _ _ _ (by simp)).trans h1
  have e2 : ((w.setCell ⟨k, 0, none⟩ (.int .i64 a)).setCell ⟨k, 1, none⟩ (.int .i64 b)).cell? ⟨k, 2, none⟩ = some (.int .i64 z) := (World.cell?_setCell_other _ _ _ _ (by simp)).trans ((World.cell?_setCell_other w _ _ _ (by simp)).trans h2)
  refine ⟨?_, ?_, World.cell?_setCell_same _ _ _ e2, by simpa using f0, by simpa using f1, by simpa using f2⟩
  · rw [World.cell?_setCell_other _ _ _ _ (by simp), World.cell?_setCell_other _ _ _ _ (by simp)]
    exact World.cell?_setCell_same w _ _ h0
  · rw [World.cell?_setCell_other _ _ _ _ (by simp)]
    exact World.cell?_setCell_same _ _ _ e1
end
theorem bset3 {B k : Nat} {a w : World} {x y z : Value} (h : Below B a w) (hk : B ≤ k) : Below B a (((w.setCell ⟨k, 0, none⟩ x).setCell ⟨k, 1, none⟩ y).setCell ⟨k, 2, none⟩ z) :=
  ((h.setCell (p := ⟨k, 0, none⟩) hk x).setCell (p := ⟨k, 1, none⟩) hk y).setCell (p := ⟨k, 2, none⟩) hk z
theorem bcall {B : Nat} {a w w' : World} (h : Below B a w) (hb : Below w.heap.size w w') (hB : B ≤ w.heap.size) : Below B a w' := h.trans (hb.mono hB)
theorem bcell {W w1 : World} (hb : Below W.heap.size W w1) : (∀ b o, b < W.heap.size → w1.cell? ⟨b, o, none⟩ = W.cell? ⟨b, o, none⟩) ∧ (∀ b o, b < W.heap.size → w1.frozen? ⟨b, o, none⟩ = W.frozen? ⟨b, o, none⟩) :=
  ⟨fun b o h => hb.cell (p := ⟨b, o, none⟩) h, fun b o h => hb.frozen (p := ⟨b, o, none⟩) h⟩
end

section
open Go.RowKit

/-- block k holds the cells vs, and each may be written -/
def Mbox (w : World) (k : Nat) (vs : List Value) : Prop := ∀ i v, vs[i]? = some v → w.cell? ⟨k, i, none⟩ = some v ∧ w.frozen? ⟨k, i, none⟩ = false
section
variable {w w' : World} {k : Nat} {vs : List Value}
theorem Mbox.c (h : Mbox w k vs) (i : Nat) {v : Value} (e : vs[i]? = some v := by rfl) : w.cell? ⟨k, i, none⟩ = some v := (h i v e).1
theorem Mbox.f (h : Mbox w k vs) (i : Nat) {v : Value} (e : vs[i]? = some v := by rfl) : w.frozen? ⟨k, i, none⟩ = false := (h i v e).2
theorem Mbox.lt (h : Mbox w k vs) {v : Value} (e : vs[0]? = some v := by rfl) : k < w.heap.size := World.block_lt_of_cell? w _ (h.c 0 e)
theorem Mbox.keep (h : Mbox w k vs) (e : k < w.heap.size → w'.heap[k]? = w.heap[k]?) : Mbox w' k vs := fun i v hv =>
  have hl := World.block_lt_of_cell? w _ (h i v hv).1
  ⟨(World.cell?_of_block (a := ⟨k, i, none⟩) (e hl)).trans (h i v hv).1, (World.frozen?_of_block (a := ⟨k, i, none⟩) (e hl)).trans (h i v hv).2⟩
theorem Mbox.later (h : Mbox w k vs) (hb : Below w.heap.size w w') : Mbox w' k vs := h.keep fun hl => hb.block k hl
theorem Mbox.alloc (h : Mbox w k vs) (o : Obj) : Mbox (w.alloc o) k vs := h.keep fun hl => Below.heap_alloc w o k hl
theorem Mbox.drew (h : Mbox w k vs) : Mbox w.drew k vs := h
theorem Mbox.drewN (h : Mbox w k vs) (n : Nat) : Mbox (w.drewN n) k vs := h
theorem Mbox.far (h : Mbox w k vs) {g i : Nat} (hk : k ≠ g) (v : Value) : Mbox (w.setCell ⟨g, i, none⟩ v) k vs := h.keep fun _ => Below.heap_setCell w _ v k hk
theorem Mbox.new (w : World) (cs : Array Value) (t : TypeId) : Mbox (w.alloc (.cells cs t)) w.heap.size cs.toList := fun i v hv =>
  ⟨by rw [World.cell?_alloc_new]; simpa using hv, World.frozen?_alloc_new ..⟩
theorem Mbox.put (h : Mbox w k vs) (i : Nat) (v : Value) : Mbox (w.setCell ⟨k, i, none⟩ v) k (vs.set i v) := fun j u hu => by
  by_cases e : i = j
  · subst e
    have hl : i < vs.length := by
      have := (List.getElem?_eq_some_iff.1 hu).1
      simpa using this
    rw [List.getElem?_set_self hl] at hu
    injection hu with hu
    subst hu
    exact ⟨World.cell?_setCell_same _ _ _ (h i _ (List.getElem?_eq_getElem hl)).1, by rw [World.frozen?_setCell]; exact (h i _ (List.getElem?_eq_getElem hl)).2⟩
  · rw [List.getElem?_set_ne e] at hu
    exact ⟨(World.cell?_setCell_other w _ _ _ (by simp)).trans (h j u hu).1, by rw [World.frozen?_setCell]; exact (h j u hu).2⟩
end
/-- the blocks that a call has made and holds on to; nothing below the world it began in has turned -/
def Held (w W : World) (bs : List (Nat × List Value)) : Prop := Below w.heap.size w W ∧ ∀ (i : Nat) (k : Nat) (vs : List Value), bs[i]? = some (k, vs) → Mbox W k vs
section
variable {w W W' : World} {bs : List (Nat × List Value)} {k : Nat} {vs : List Value}
theorem Held.nil (w : World) : Held w w [] := ⟨Below.refl _ _, fun i k vs h => by simp at h⟩
theorem Held.below (h : Held w W bs) : Below w.heap.size w W := h.1
theorem Held.size (h : Held w W bs) : w.heap.size ≤ W.heap.size := h.1.size
theorem Held.box (h : Held w W bs) (i : Nat) (e : bs[i]? = some (k, vs) := by rfl) : Mbox W k vs := h.2 i k vs e
theorem Held.later (h : Held w W bs) (hb : Below W.heap.size W W') : Held w W' bs := ⟨h.1.trans (hb.mono h.1.size), fun i k vs e => (h.2 i k vs e).later hb⟩
theorem Held.drew (h : Held w W bs) : Held w W.drew bs := ⟨h.1.drew, fun i k vs e => (h.2 i k vs e).drew⟩
theorem Held.drewN (h : Held w W bs) (n : Nat) : Held w (W.drewN n) bs := ⟨below_drewN h.1 n, fun i k vs e => (h.2 i k vs e).drewN n⟩
theorem Held.alloc (h : Held w W bs) (o : Obj) : Held w (W.alloc o) bs := ⟨h.1.alloc h.1.size o, fun i k vs e => (h.2 i k vs e).alloc o⟩
/-- a new block, kept too -/
theorem Held.new (h : Held w W bs) (cs : Array Value) (t : TypeId) : Held w (W.alloc (.cells cs t)) ((W.heap.size, cs.toList) :: bs) := by
  refine ⟨h.1.alloc h.1.size _, fun i k vs e => ?_⟩
  match i, e with
  | 0, e =>
    simp only [List.getElem?_cons_zero, Option.some.injEq, Prod.mk.injEq] at e
    obtain ⟨rfl, rfl⟩ := e
    exact Mbox.new W cs t
  | i + 1, e => exact (h.2 i k vs (by simpa using e)).alloc _
theorem Held.tail (h : Held w W ((k, vs) :: bs)) : Held w W bs := ⟨h.1, fun i k vs e => h.2 (i + 1) k vs (by simpa using e)⟩
theorem Held.cons (h : Held w W bs) (m : Mbox W k vs) : Held w W ((k, vs) :: bs) := ⟨h.1, fun i k' vs' e => by
  match i, e with
  | 0, e =>
    simp only [List.getElem?_cons_zero, Option.some.injEq, Prod.mk.injEq] at e
    obtain ⟨rfl, rfl⟩ := e
    exact m
  | i + 1, e => exact h.2 i k' vs' (by simpa using e)⟩
theorem Held.pick (h : Held w W bs) {cs : List (Nat × List Value)} (e : ∀ p ∈ cs, p ∈ bs) : Held w W cs := ⟨h.1, fun i k vs hi => by
  obtain ⟨j, hj⟩ := List.mem_iff_getElem?.1 (e _ (List.mem_of_getElem? hi))
  exact h.2 j k vs hj⟩
/-- a store into a block that is not among those kept -/
theorem Held.far (h : Held w W bs) {g i : Nat} (hg : w.heap.size ≤ g) (hne : ∀ p ∈ bs, p.1 ≠ g) (v : Value) : Held w (W.setCell ⟨g, i, none⟩ v) bs :=
  ⟨h.1.setCell (p := ⟨g, i, none⟩) hg v, fun i k vs e => (h.2 i k vs e).far (hne (k, vs) (List.mem_of_getElem? e)) v⟩
theorem Held.far3 (h : Held w W bs) {g i j l : Nat} (hg : w.heap.size ≤ g) (hne : ∀ p ∈ bs, p.1 ≠ g) (x y z : Value) : Held w (((W.setCell ⟨g, i, none⟩ x).setCell ⟨g, j, none⟩ y).setCell ⟨g, l, none⟩ z) bs :=
  ((h.far hg hne x).far hg hne y).far hg hne z
theorem Held.far6 (h : Held w W bs) {g i j l i' j' l' : Nat} (hg : w.heap.size ≤ g) (hne : ∀ p ∈ bs, p.1 ≠ g) (x y z x' y' z' : Value) : Held w ((((((W.setCell ⟨g, i, none⟩ x).setCell ⟨g, j, none⟩ y).setCell ⟨g, l, none⟩ z).setCell ⟨g, i', none⟩ x').setCell ⟨g, j', none⟩ y').setCell ⟨g, l', none⟩ z') bs :=
  (h.far3 hg hne x y z).far3 hg hne x' y' z'
/-- a store into the block that stands first -/
theorem Held.put (h : Held w W ((k, vs) :: bs)) (hg : w.heap.size ≤ k) (hne : ∀ p ∈ bs, p.1 ≠ k) (i : Nat) (v : Value) : Held w (W.setCell ⟨k, i, none⟩ v) ((k, vs.set i v) :: bs) :=
  (h.tail.far hg hne v).cons ((h.box 0 rfl).put i v)
end
theorem hb_size {W W' : World} (hb : Below W.heap.size W W') : W.heap.size ≤ W'.heap.size := hb.size
end

section
open Go.RowKit

/-- a slice at address A, below block B, whose elements (one cell each) are 'xs' -/
def Row {α : Type} (f : α → Value) (w : World) (B : Nat) (A : Option Addr) (xs : List α) : Prop :=
  0 < xs.length → ∃ b o, A = some ⟨b, o, none⟩ ∧ b < B ∧ ∀ k (h : k < xs.length), w.cell? ⟨b, o + k, none⟩ = some (f xs[k])

section
variable {α : Type} {f : α → Value} {w w' : World} {B B' : Nat} {A : Option Addr} {xs : List α}
theorem Row.nil : Row f w B A [] := fun h => by simp at h
theorem Row.at (h : Row f w B A xs) {k : Nat} (hk : k < xs.length) : ∃ b o, A = some ⟨b, o, none⟩ ∧ b < B ∧ w.cell? ⟨b, o + k, none⟩ = some (f xs[k]) := by
  obtain ⟨b, o, e, hb, hc⟩ := h (by omega)
  exact ⟨b, o, e, hb, hc k hk⟩
theorem Row.keep (h : Row f w B A xs) (hk : ∀ p : Addr, p.block < B → w'.cell? p = w.cell? p) : Row f w' B A xs := fun hn => by
  obtain ⟨b, o, e, hb, hc⟩ := h hn
  exact ⟨b, o, e, hb, fun k hk' => (hk _ hb).trans (hc k hk')⟩
theorem Row.more (h : Row f w B A xs) (hB : B ≤ B') : Row f w B' A xs := fun hn => by
  obtain ⟨b, o, e, hb, hc⟩ := h hn
  exact ⟨b, o, e, by omega, hc⟩
theorem Row.below (h : Row f w B A xs) (hb : Below B w w') : Row f w' B A xs := h.keep fun _ hp => hb.cell hp
theorem Row.later (h : Row f w w.heap.size A xs) (hb : Below w.heap.size w w') : Row f w' w'.heap.size A xs := (h.below hb).more hb.size
theorem Row.alloc (h : Row f w B A xs) (hB : B ≤ w.heap.size) (o : Obj) : Row f (w.alloc o) B A xs := h.keep fun p hp => World.cell?_alloc_lt w o p (by omega)
theorem Row.of_own {base : Nat} {e : TypeId} {n c : Nat} (h : w.ownsRow base e 1 (.slice A n c) n (xs.map f)) : Row f w w.heap.size A xs := fun hn => by
  have hl := h.1
  simp at hl
  rcases h.2 with ⟨_, h0⟩ | ⟨g, cap, cur, hv, hb, hh, hnc, hm, hs, ht⟩
  · omega
  · simp only [Value.slice.injEq] at hv
    obtain ⟨rfl, _, rfl⟩ := hv
    refine ⟨g, 0, rfl, ?_, fun k hk => ?_⟩
    · exact (h.lt g rfl).2
    · have := h.cellAt k (by omega)
      rw [Nat.zero_add, this]
      simp [hk]
end
/-- what the reading of a slice of one-cell elements gives -/
theorem row_of_cells {α : Type} {f : α → Value} {w : World} {x : Addr} {len cap : Nat} {zs : List α} {d : α} {p : α → Prop} (hl : len ≤ cap) (hm : cap ≤ maxLen) (hz : zs.length = cap)
    (hcell : ∀ i, i < zs.length → w.cell? (x.add i) = some (f (zs.getD i d))) (hp : ∀ z ∈ zs, p z) : ∃ xs : List α, len = xs.length ∧ Row f w w.heap.size (some x) xs ∧ xs.length ≤ maxLen ∧ ∀ z ∈ xs, p z := by
  refine ⟨zs.take len, by simp; omega, fun hn => ?_, by simp; omega, fun z hz => hp z (List.mem_of_mem_take hz)⟩
  simp at hn
  have h0 := hcell 0 (by omega)
  obtain ⟨b, o, s⟩ := x
  have hs : s = none := by simpa [Addr.add] using World.cell?_spot h0
  subst hs
  have e : ∀ k, (⟨b, o, none⟩ : Addr).add k = ⟨b, o + k, none⟩ := fun k => by unfold Addr.add; split <;> simp_all
  refine ⟨b, o, rfl, World.block_lt_of_cell? w _ h0, fun k hk => ?_⟩
  have := hcell k (by simp at hk; omega)
  rw [e] at this
  rw [this]
  simp at hk
  simp [List.getD, show k < zs.length by omega]
theorem below_own {w w1 w2 : World} {B : Nat} {row : Option Nat} (h : Below B w w1) (hg : w1.grownBy w2 row) (hB : B ≤ w1.heap.size) (hr : ∀ k, row = some k → B ≤ k) : Below B w w2 := h.grown hg hB hr
theorem made_one (z : Value) (n : Nat) : (madeCells #[z] n).toList = List.replicate n z := by
  refine List.eq_replicate_iff.2 ⟨by simp [madeCells], fun b hb => ?_⟩
  simp [madeCells, Nat.mod_one] at hb
  exact hb.2.symm
theorem gb_refl (w : World) (row : Option Nat) : w.grownBy w row := ⟨rfl, rfl, rfl, Nat.le_refl _, fun _ _ _ => rfl⟩
theorem gb_trans {a b c : World} {row : Option Nat} (h : a.grownBy b row) (k : b.grownBy c row) : a.grownBy c row :=
  ⟨k.os.trans h.os, k.tape.trans h.tape, k.output.trans h.output, Nat.le_trans h.size k.size, fun i hi hr => (k.block i (Nat.lt_of_lt_of_le hi h.size) hr).trans (h.block i hi hr)⟩
theorem gb_set {a b : World} {g i : Nat} (h : a.grownBy b (some g)) (v : Value) : a.grownBy (b.setCell ⟨g, i, none⟩ v) (some g) :=
  ⟨h.os, h.tape, h.output, by simpa using h.size, fun k hk hr => (Below.heap_setCell b _ v k (fun e => hr (by rw [e]))).trans (h.block k hk hr)⟩
theorem gb_drewN {a b : World} {row : Option Nat} (h : a.grownBy b row) (n : Nat) : a.grownBy (b.drewN n) row := ⟨h.os, h.tape, h.output, h.size, h.block⟩
theorem gb_drew {a b : World} {row : Option Nat} (h : a.grownBy b row) : a.grownBy b.drew row := ⟨h.os, h.tape, h.output, h.size, h.block⟩
theorem gb_of_below {a b : World} {row : Option Nat} (h : Below a.heap.size a b) : a.grownBy b row := ⟨h.os, h.tape, h.output, h.size, fun k hk _ => h.block k hk⟩
theorem gb_below {a b : World} {g B : Nat} (h : a.grownBy b (some g)) (hB : B ≤ a.heap.size) (hg : B ≤ g) : Below B a b :=
  ⟨h.os, h.tape, h.output, h.size, fun k hk => h.block k (by omega) (fun e => by injection e with e; omega)⟩
theorem own_shape {w : World} {base : Nat} {e : TypeId} {size n : Nat} {v : Value} {xs : List Value} (h : w.ownsRow base e size v n xs) : ∃ A c, v = .slice A n c := by
  rcases h.2 with ⟨rfl, rfl⟩ | ⟨g, cap, cur, rfl, _⟩
  · exact ⟨none, 0, rfl⟩
  · exact ⟨_, _, rfl⟩
theorem own_block {w : World} {base : Nat} {e : TypeId} {size n : Nat} {v : Value} {xs : List Value} (h : w.ownsRow base e size v n xs) : ∀ k, v.ownBlock = some k → base ≤ k := fun k hk => (h.lt k hk).1
theorem own_base {w : World} {base base' : Nat} {e : TypeId} {size n : Nat} {v : Value} {xs : List Value} (h : w.ownsRow base e size v n xs) (hb : base' ≤ base) : w.ownsRow base' e size v n xs := by
  refine ⟨h.1, ?_⟩
  rcases h.2 with h | ⟨g, cap, cur, h1, h2, h3⟩
  · exact .inl h
  · exact .inr ⟨g, cap, cur, h1, by omega, h3⟩
theorem own_keep {w w' : World} {base : Nat} {e : TypeId} {size n : Nat} {v : Value} {xs : List Value} (h : w.ownsRow base e size v n xs) {g : Nat} (hg : w.grownBy w' (some g)) (hlt : g < base) : w'.ownsRow base e size v n xs :=
  h.kept hg (by
    rcases hv : v.ownBlock with _ | r
    · exact .inl rfl
    · exact .inr (fun he => by have := own_block h r hv; injection he with he; omega))
theorem own_keep' {w w' : World} {base : Nat} {e : TypeId} {size n : Nat} {v : Value} {xs : List Value} (h : w.ownsRow base e size v n xs) (hb : Below w.heap.size w w') : w'.ownsRow base e size v n xs :=
  h.kept (gb_of_below hb (row := none)) (by
    rcases hv : v.ownBlock with _ | r
    · exact .inl rfl
    · exact .inr (by simp))
theorem own_ne {w : World} {b b' : Nat} {e e' : TypeId} {m m' n n' : Nat} {v v' : Value} {xs xs' : List Value} (h : w.ownsRow b e m v n xs) (h' : w.ownsRow b' e' m' v' n' xs') (hne : e ≠ e') : v.ownBlock = none ∨ v.ownBlock ≠ v'.ownBlock := by
  rcases h.2 with ⟨rfl, _⟩ | ⟨g, cap, cur, rfl, _, hg, _⟩
  · exact .inl rfl
  · refine .inr (fun he => ?_)
    rcases h'.2 with ⟨rfl, _⟩ | ⟨g', cap', cur', rfl, _, hg', _⟩
    · simp [Value.ownBlock] at he
    · simp only [Value.ownBlock, Option.some.injEq] at he
      subst he
      rw [hg] at hg'
      injection hg' with hg'
      injection hg' with _ ht
      exact hne ht
/-- 'append(s, x)' of one element onto a row of the call's own: the operand's own block is the newest one -/
theorem wpList_app1 {P : Program} {ops : Array Oper} {rest : List Oper} {o : Oper} {a : Act} {Q : Exit → Act → World → Prop} (w0 : World) (hgd : o.guard = none) (s x : Operand) (t : TypeId)
    (ho : o.op = .call { callee := .builtin .append, args := #[s, x], argTypes := #[t, t] }) (base : Nat) (e : TypeId) (z : Value) (bytes : Nat)
    (ht : P.underlying t = some (.slice e)) (hinfo : (P.info? e).map (fun i => (i.zero, i.size, i.bytes)) = some (some z, 1, bytes)) (hzs : z.cells.size = 1)
    (v : Value) (n : Nat) (xs : List Value) (hs : a.eval s = v) (hown : w0.ownsRow base e 1 v n xs) (u : Value) (hx : a.eval x = .slice (some ⟨w0.heap.size, 0, none⟩) 1 1) (hu : u.oneCell' = true)
    (h63 : n + 1 ≤ maxLen) (hbytes : (n + 1) * bytes ≤ 140737488355328) (hbase : base ≤ w0.heap.size)
    (h : ∀ v' w', w'.ownsRow base e 1 v' (n + 1) (xs ++ [u]) → w0.grownBy w' v.ownBlock → wpList P ops Q rest (a.put o.dst v') w') : wpList P ops Q (o :: rest) a (w0.alloc (.cells #[u] e)) := by
  obtain ⟨i0, hi, hz0, hz1, hz2⟩ := info_parts hinfo
  refine wpList_append_own _ hgd s x t ho base e i0 z 1 bytes ht hi hz0 hz1 hz2 hzs (by omega) v n xs hs (hown.alloc _) ⟨w0.heap.size, 0, none⟩ 1 1 [u] hx rfl ?_ ?_ h63 hbytes (by simp; omega) ?_
  · intro j y hj
    match j, hj with
    | 0, hj => simp at hj; subst hj; simp [Addr.add]
  · intro y hy; simp at hy; subst hy; exact hu
  · intro v' w' h1 h2 _
    exact h v' w' h1 ⟨h2.os, h2.tape, h2.output, Nat.le_trans (by simp) h2.size, fun k hk hr => (h2.block k (by simp; omega) hr).trans (Below.heap_alloc w0 _ k hk)⟩
end

section
open Go.RowKit Go.ChangeShapes Go.WideShapes

/-- whatever reads at type t is n integers, one cell each -/
def FlatI (P : Program) (t : TypeId) (n : Nat) : Prop :=
  ∀ (H : Type) (enc : TypeId × Value → H) (w : World) (base : Nat) (spare : Nat → Bool) (held : Bool) (fuel : Nat) (cs : List Value) (x : DataW H × List MemPlace),
    DataW.trod enc P w base spare held fuel t cs = some x → ∃ zs : List Int, zs.length = n ∧ cs = zs.map (Value.int .i64) ∧ ∀ z ∈ zs, (Lit.int .i64 z).wf = true
theorem flat1 {P : Program} {t : TypeId} (ht : P.underlying t = some (.int .i64)) : FlatI P t 1 := by
  intro H enc w base spare held fuel cs x h
  obtain ⟨n, rfl, _, hw⟩ := DataW.trod_int ht h
  exact ⟨[n], rfl, rfl, fun z hz => by rcases List.mem_singleton.1 hz with rfl; exact hw⟩
/-- the fields of a struct, from a place on: each flat, one behind the other -/
def FlatFs (P : Program) : List Field → Nat → Nat → Prop
  | [], o, n => o = n
  | f :: fs, o, n => f.offset = o ∧ FlatI P f.type (P.cellsOf f.type) ∧ FlatFs P fs (o + P.cellsOf f.type) n
theorem flat_fields {P : Program} {H : Type} {enc : TypeId × Value → H} {w : World} {base : Nat} {spare : Nat → Bool} {held : Bool} {m : Nat} {cs : List Value} {n : Nat} (hn : cs.length = n) :
    ∀ (fs : List Field) (o : Nat), FlatFs P fs o n → (∀ f ∈ fs, ∃ y, DataW.trod enc P w base spare held m f.type ((cs.drop f.offset).take (P.cellsOf f.type)) = some y) →
      ∃ zs : List Int, cs.drop o = zs.map (Value.int .i64) ∧ ∀ z ∈ zs, (Lit.int .i64 z).wf = true := by
  intro fs
  induction fs with
  | nil =>
    intro o h _
    have h : o = n := h
    exact ⟨[], by simp; omega, by simp⟩
  | cons f fs ih =>
    intro o h hy
    obtain ⟨ho, hf, hr⟩ := h
    obtain ⟨y, hy0⟩ := hy f (by simp)
    obtain ⟨z0, hl0, e0, w0⟩ := hf _ _ _ _ _ _ _ _ _ hy0
    obtain ⟨z1, e1, w1⟩ := ih _ hr (fun g hg => hy g (by simp [hg]))
    refine ⟨z0 ++ z1, ?_, fun z hz => ?_⟩
    · rw [List.map_append, ← e0, ← e1, ← ho, ← List.drop_drop, List.take_append_drop]
    · rcases List.mem_append.1 hz with hz | hz
      · exact w0 z hz
      · exact w1 z hz
theorem flatS {P : Program} {t : TypeId} {fs : Array Field} {n : Nat} (ht : P.underlying t = some (.struct fs)) (hn : P.cellsOf t = n) (hf : FlatFs P fs.toList 0 n) : FlatI P t n := by
  intro H enc w base spare held fuel cs x h
  obtain ⟨xs, m, _, _, hl, hlen, hg⟩ := DataW.trod_struct ht h
  obtain ⟨zs, e, hw⟩ := flat_fields (hl.trans hn) fs.toList 0 hf (fun f hfm => by
    obtain ⟨i, hi, rfl⟩ := List.getElem_of_mem hfm
    have hi' : i < fs.size := by simpa using hi
    have := hg i _ (by simp [hi'] : fs[i]? = some fs.toList[i])
    exact ⟨xs[i]'(by omega), by rw [this]; simp [show i < xs.length by omega]⟩)
  simp only [List.drop_zero] at e
  exact ⟨zs, by have := congrArg List.length e; simp at this; omega, e, hw⟩
theorem flat_chunks {e : Nat} {cs : List Value} : ∀ (n : Nat), cs.length = n * e → (∀ i, i < n → ∃ zs : List Int, (cs.drop (i * e)).take e = zs.map (Value.int .i64) ∧ ∀ z ∈ zs, (Lit.int .i64 z).wf = true) →
      ∃ zs : List Int, cs = zs.map (Value.int .i64) ∧ ∀ z ∈ zs, (Lit.int .i64 z).wf = true := by
  intro n
  induction n generalizing cs with
  | zero =>
    intro hl _
    have : cs = [] := List.length_eq_zero_iff.1 (by omega)
    exact ⟨[], by simpa using this, by simp⟩
  | succ n ih =>
    intro hl h
    obtain ⟨z0, e0, w0⟩ := h 0 (by omega)
    obtain ⟨z1, e1, w1⟩ := ih (cs := cs.drop e) (by rw [List.length_drop, hl, Nat.succ_mul]; omega) (fun i hi => by
      obtain ⟨zs, ez, wz⟩ := h (i + 1) (by omega)
      exact ⟨zs, by rw [← ez, List.drop_drop, Nat.succ_mul, Nat.add_comm e]; , wz⟩)
    simp only [Nat.zero_mul, List.drop_zero] at e0
    refine ⟨z0 ++ z1, ?_, fun z hz => ?_⟩
    · rw [List.map_append, ← e0, ← e1, List.take_append_drop]
    · rcases List.mem_append.1 hz with hz | hz
      · exact w0 z hz
      · exact w1 z hz
theorem flatA {P : Program} {t e : TypeId} {n m : Nat} (ht : P.underlying t = some (.array n e)) (hn : P.cellsOf t = n * m) (hm : P.cellsOf e = m) (hf : FlatI P e m) : FlatI P t (n * m) := by
  intro H enc w base spare held fuel cs x h
  obtain ⟨xs, k, _, _, hl, hlen, hg⟩ := DataW.trod_array ht h
  rw [hn] at hl
  obtain ⟨zs, e, hw⟩ := flat_chunks n hl (fun i hi => by
    have := hg i hi
    rw [hm, show xs[i]? = some (xs[i]'(by omega)) by simp [show i < xs.length by omega]] at this
    obtain ⟨zs, _, ez, wz⟩ := hf _ _ _ _ _ _ _ _ _ this
    exact ⟨zs, ez, wz⟩)
  exact ⟨zs, by have := congrArg List.length e; simp at this; omega, e, hw⟩
/-- a struct argument, opened -/
theorem open_flat {P : Program} {t : TypeId} {fs : Array Field} {n : Nat} (ht : P.underlying t = some (.struct fs)) (hF : FlatI P t n) {H : Type} {enc : TypeId × Value → H} {w : World} {base : Nat} {spare : Nat → Bool} {held : Bool} {r : Reach} {b0 : Nat} {v : Value}
    {d : DataW H} {p : List MemPlace} (hv : Value.okWide P w r b0 t v) (h : DataW.Trod enc P w base spare held t v d p) : ∃ zs : List Int, zs.length = n ∧ v = .agg ⟨zs.map (Value.int .i64)⟩ ∧ ∀ z ∈ zs, (Lit.int .i64 z).wf = true := by
  obtain ⟨cs, rfl, hsz⟩ := okWide_struct ht hv
  obtain ⟨fuel, hf⟩ := h
  obtain ⟨zs, hl, hc, hw⟩ := hF _ _ _ _ _ _ _ _ _ hf
  refine ⟨zs, hl, ?_, hw⟩
  have e : cs.toList = zs.map (Value.int .i64) := by simpa [Value.cells] using hc
  rw [← e]
theorem list1 {zs : List Int} (h : zs.length = 1) : ∃ z0, zs = [z0] := by
  match zs, h with
  | [z0], _ => exact ⟨z0, rfl⟩
theorem list2 {zs : List Int} (h : zs.length = 2) : ∃ z0 z1, zs = [z0, z1] := by
  match zs, h with
  | [z0, z1], _ => exact ⟨z0, z1, rfl⟩
theorem list3 {zs : List Int} (h : zs.length = 3) : ∃ z0 z1 z2, zs = [z0, z1, z2] := by
  match zs, h with
  | [z0, z1, z2], _ => exact ⟨z0, z1, z2, rfl⟩
theorem list4 {zs : List Int} (h : zs.length = 4) : ∃ z0 z1 z2 z3, zs = [z0, z1, z2, z3] := by
  match zs, h with
  | [z0, z1, z2, z3], _ => exact ⟨z0, z1, z2, z3, rfl⟩
theorem list5 {zs : List Int} (h : zs.length = 5) : ∃ z0 z1 z2 z3 z4, zs = [z0, z1, z2, z3, z4] := by
  match zs, h with
  | [z0, z1, z2, z3, z4], _ => exact ⟨z0, z1, z2, z3, z4, rfl⟩
theorem list6 {zs : List Int} (h : zs.length = 6) : ∃ z0 z1 z2 z3 z4 z5, zs = [z0, z1, z2, z3, z4, z5] := by
  match zs, h with
  | [z0, z1, z2, z3, z4, z5], _ => exact ⟨z0, z1, z2, z3, z4, z5, rfl⟩
theorem list7 {zs : List Int} (h : zs.length = 7) : ∃ z0 z1 z2 z3 z4 z5 z6, zs = [z0, z1, z2, z3, z4, z5, z6] := by
  match zs, h with
  | [z0, z1, z2, z3, z4, z5, z6], _ => exact ⟨z0, z1, z2, z3, z4, z5, z6, rfl⟩
theorem list8 {zs : List Int} (h : zs.length = 8) : ∃ z0 z1 z2 z3 z4 z5 z6 z7, zs = [z0, z1, z2, z3, z4, z5, z6, z7] := by
  match zs, h with
  | [z0, z1, z2, z3, z4, z5, z6, z7], _ => exact ⟨z0, z1, z2, z3, z4, z5, z6, z7, rfl⟩
theorem list9 {zs : List Int} (h : zs.length = 9) : ∃ z0 z1 z2 z3 z4 z5 z6 z7 z8, zs = [z0, z1, z2, z3, z4, z5, z6, z7, z8] := by
  match zs, h with
  | [z0, z1, z2, z3, z4, z5, z6, z7, z8], _ => exact ⟨z0, z1, z2, z3, z4, z5, z6, z7, z8, rfl⟩
theorem list10 {zs : List Int} (h : zs.length = 10) : ∃ z0 z1 z2 z3 z4 z5 z6 z7 z8 z9, zs = [z0, z1, z2, z3, z4, z5, z6, z7, z8, z9] := by
  match zs, h with
  | [z0, z1, z2, z3, z4, z5, z6, z7, z8, z9], _ => exact ⟨z0, z1, z2, z3, z4, z5, z6, z7, z8, z9, rfl⟩
theorem list11 {zs : List Int} (h : zs.length = 11) : ∃ z0 z1 z2 z3 z4 z5 z6 z7 z8 z9 z10, zs = [z0, z1, z2, z3, z4, z5, z6, z7, z8, z9, z10] := by
  match zs, h with
  | [z0, z1, z2, z3, z4, z5, z6, z7, z8, z9, z10], _ => exact ⟨z0, z1, z2, z3, z4, z5, z6, z7, z8, z9, z10, rfl⟩
theorem list12 {zs : List Int} (h : zs.length = 12) : ∃ z0 z1 z2 z3 z4 z5 z6 z7 z8 z9 z10 z11, zs = [z0, z1, z2, z3, z4, z5, z6, z7, z8, z9, z10, z11] := by
  match zs, h with
  | [z0, z1, z2, z3, z4, z5, z6, z7, z8, z9, z10, z11], _ => exact ⟨z0, z1, z2, z3, z4, z5, z6, z7, z8, z9, z10, z11, rfl⟩
end

section
open Go.RowKit

/-- a slice at address A, below block B, whose elements take n cells each (g: the cells of an element) -/
def RowC {α : Type} (n : Nat) (g : α → List Value) (w : World) (B : Nat) (A : Option Addr) (xs : List α) : Prop :=
  0 < xs.length → ∃ b o, A = some ⟨b, o, none⟩ ∧ b < B ∧ ∀ k (h : k < xs.length) j v, (g xs[k])[j]? = some v → w.cell? ⟨b, o + k * n + j, none⟩ = some v
section
variable {α : Type} {n : Nat} {g : α → List Value} {w w' : World} {B B' : Nat} {A : Option Addr} {xs : List α}
theorem RowC.nil : RowC n g w B A [] := fun h => by simp at h
theorem RowC.at (h : RowC n g w B A xs) {k : Nat} (hk : k < xs.length) : ∃ b o, A = some ⟨b, o, none⟩ ∧ b < B ∧ ∀ j v, (g xs[k])[j]? = some v → w.cell? ⟨b, o + k * n + j, none⟩ = some v := by
  obtain ⟨b, o, e, hb, hc⟩ := h (by omega)
  exact ⟨b, o, e, hb, hc k hk⟩
theorem RowC.keep (h : RowC n g w B A xs) (hk : ∀ p : Addr, p.block < B → w'.cell? p = w.cell? p) : RowC n g w' B A xs := fun hn => by
  obtain ⟨b, o, e, hb, hc⟩ := h hn
  exact ⟨b, o, e, hb, fun k hk' j v hv => (hk _ hb).trans (hc k hk' j v hv)⟩
theorem RowC.more (h : RowC n g w B A xs) (hB : B ≤ B') : RowC n g w B' A xs := fun hn => by
  obtain ⟨b, o, e, hb, hc⟩ := h hn
  exact ⟨b, o, e, by omega, hc⟩
theorem RowC.below (h : RowC n g w B A xs) (hb : Below B w w') : RowC n g w' B A xs := h.keep fun _ hp => hb.cell hp
theorem RowC.later (h : RowC n g w w.heap.size A xs) (hb : Below w.heap.size w w') : RowC n g w' w'.heap.size A xs := (h.below hb).more hb.size
theorem RowC.alloc (h : RowC n g w B A xs) (hB : B ≤ w.heap.size) (o : Obj) : RowC n g (w.alloc o) B A xs := h.keep fun p hp => World.cell?_alloc_lt w o p (by omega)
end
theorem flat_len {α : Type} {n : Nat} {g : α → List Value} (hg : ∀ x, (g x).length = n) (xs : List α) : (xs.flatMap g).length = xs.length * n := by
  induction xs with
  | nil => simp
  | cons x xs ih => simp only [List.flatMap_cons, List.length_append, ih, hg, List.length_cons, Nat.succ_mul]; omega
theorem flat_get {α : Type} {n : Nat} {g : α → List Value} (hg : ∀ x, (g x).length = n) (xs : List α) : ∀ (k j : Nat) (hk : k < xs.length), j < n → (xs.flatMap g)[k * n + j]? = (g xs[k])[j]? := by
  induction xs with
  | nil => intro k j hk; simp at hk
  | cons x xs ih =>
    intro k j hk hj
    rw [List.flatMap_cons]
    match k, hk with
    | 0, hk =>
      rw [Nat.zero_mul, Nat.zero_add, List.getElem?_append_left (by rw [hg]; exact hj)]
      rfl
    | k + 1, hk =>
      have h := ih k j (by simpa using hk) hj
      rw [List.getElem?_append_right (by rw [hg, Nat.succ_mul]; omega), hg, show (k + 1) * n + j - n = k * n + j by rw [Nat.succ_mul]; omega, h]
      rfl
theorem RowC.of_own {α : Type} {m : Nat} {g : α → List Value} (hg : ∀ x, (g x).length = m) {w : World} {base : Nat} {e : TypeId} {A : Option Addr} {n c : Nat} {xs : List α} (h : w.ownsRow base e m (.slice A n c) n (xs.flatMap g)) (hn : xs.length = n) : RowC m g w w.heap.size A xs := fun h0 => by
  rcases h.2 with ⟨_, h1⟩ | ⟨b, cap, cur, hv, hb, hh, hnc, hm, hs, ht⟩
  · omega
  · simp only [Value.slice.injEq] at hv
    obtain ⟨rfl, _, rfl⟩ := hv
    refine ⟨b, 0, rfl, (h.lt b rfl).2, fun k hk j v hv => ?_⟩
    have hj : j < m := by
      have := (List.getElem?_eq_some_iff.1 hv).1
      rwa [hg] at this
    have hlt : k * m + j < n * m := by
      have : (k + 1) * m ≤ n * m := Nat.mul_le_mul_right _ (by omega)
      rw [Nat.succ_mul] at this
      omega
    have := h.cellAt (k * m + j) hlt
    rw [Nat.zero_add, this, flat_get hg xs k j hk hj, hv]
theorem list_of {β : Type} {P : Nat → β → Prop} : ∀ n, (∀ i, i < n → ∃ y, P i y) → ∃ ys : List β, ys.length = n ∧ ∀ i (h : i < ys.length), P i ys[i] := by
  intro n
  induction n with
  | zero => intro _; exact ⟨[], rfl, fun i h => by simp at h⟩
  | succ n ih =>
    intro h
    obtain ⟨ys, hl, hp⟩ := ih fun i hi => h i (by omega)
    obtain ⟨y, hy⟩ := h n (by omega)
    refine ⟨ys ++ [y], by simp [hl], fun i hi => ?_⟩
    by_cases e : i < ys.length
    · rw [List.getElem_append_left e]; exact hp i e
    · have : i = n := by simp at hi; omega
      subst this
      rw [List.getElem_append_right (by omega)]
      simpa using hy
/-- what the reading of a slice of flat elements gives -/
theorem rows_of_flat {α : Type} {P : Program} {t e : TypeId} {n : Nat} (dec : List Int → α) (g : α → List Value) (hd : ∀ zs : List Int, zs.length = n → g (dec zs) = zs.map (Value.int .i64)) (ht : P.underlying t = some (.slice e)) (hn : P.cellsOf e = n) (hF : FlatI P e n) (hn0 : 0 < n)
    {H : Type} {enc : TypeId × Value → H} {w : World} {base : Nat} {spare : Nat → Bool} {held : Bool} {A : Option Addr} {len cap : Nat} {d : DataW H} {p : List MemPlace} (h : DataW.Trod enc P w base spare held t (.slice A len cap) d p) :
    ∃ xs : List α, len = xs.length ∧ RowC n g w w.heap.size A xs ∧ xs.length ≤ maxLen := by
  obtain ⟨fuel, hf⟩ := h
  rcases Deep.open_slice ht hf with ⟨hcs, _⟩ | ⟨a, l, c, m, k, D, Pl, hcs, _, hl, hm, hmm, _, hi⟩
  · simp [Value.cells] at hcs
    obtain ⟨rfl, rfl, rfl⟩ := hcs
    exact ⟨[], rfl, RowC.nil, Nat.zero_le _⟩
  · simp [Value.cells] at hcs
    obtain ⟨rfl, rfl, rfl⟩ := hcs
    have hlm : len ≤ m := by rw [hmm]; split <;> omega
    obtain ⟨ys, hy, hp⟩ := list_of (P := fun i (zs : List Int) => zs.length = n ∧ ∀ j, j < n → w.cell? (a.add (i * n + j)) = (zs.map (Value.int .i64))[j]?) len (fun i hlt => by
      obtain ⟨cs', hc, ht'⟩ := hi i (by omega)
      obtain ⟨zs, hzl, rfl, _⟩ := hF _ _ _ _ _ _ _ _ _ ht'
      obtain ⟨_, _, hat⟩ := World.cells?_some hc
      refine ⟨zs, hzl, fun j hj => ?_⟩
      have := hat j (by omega)
      rw [hn, Deep.add_add] at this
      exact this)
    refine ⟨ys.map dec, by simp [hy], fun h0 => ?_, by simp; omega⟩
    have h0 : 0 < ys.length := by simpa using h0
    obtain ⟨hz0, hz1⟩ := hp 0 h0
    have hc0 := hz1 0 hn0
    obtain ⟨b, o, s⟩ := a
    have hs : s = none := by
      have : ((ys[0]).map (Value.int .i64))[0]? = some (.int .i64 ((ys[0])[0]'(by omega))) := by simp [hz0, hn0]
      rw [this] at hc0
      simpa [Addr.add] using World.cell?_spot hc0
    subst hs
    have ea : ∀ k, (⟨b, o, none⟩ : Addr).add k = ⟨b, o + k, none⟩ := fun k => by unfold Addr.add; split <;> simp_all
    refine ⟨b, o, rfl, ?_, fun k hk j v hv => ?_⟩
    · have : ((ys[0]).map (Value.int .i64))[0]? = some (.int .i64 ((ys[0])[0]'(by omega))) := by simp [hz0, hn0]
      rw [this, ea] at hc0
      exact World.block_lt_of_cell? w _ hc0
    · have hk' : k < ys.length := by simpa using hk
      obtain ⟨hzl, hzc⟩ := hp k hk'
      have hv' : ((ys[k]).map (Value.int .i64))[j]? = some v := by
        rw [← hd _ hzl]
        simpa using hv
      have hj : j < n := by
        have := (List.getElem?_eq_some_iff.1 hv').1
        simp only [List.length_map] at this
        omega
      have := hzc j hj
      rw [ea, hv', ← Nat.add_assoc] at this
      exact this
/-- a vector, as a list's element -/
abbrev V3 := Int × Int × Int
def vg (v : V3) : List Value := [.int .i64 v.1, .int .i64 v.2.1, .int .i64 v.2.2]
theorem vg_len (v : V3) : (vg v).length = 3 := rfl
def v3 : List Int → V3
  | [x, y, z] => (x, y, z)
  | _ => (0, 0, 0)
theorem vg_v3 (zs : List Int) (h : zs.length = 3) : vg (v3 zs) = zs.map (Value.int .i64) := by
  match zs, h with
  | [x, y, z], _ => rfl
theorem vg_at {w : World} {b o : Nat} {v : V3} (h : ∀ j u, (vg v)[j]? = some u → w.cell? ⟨b, o + j, none⟩ = some u) :
    w.cell? ⟨b, o, none⟩ = some (.int .i64 v.1) ∧ w.cell? ⟨b, o + 1, none⟩ = some (.int .i64 v.2.1) ∧ w.cell? ⟨b, o + 2, none⟩ = some (.int .i64 v.2.2) :=
  ⟨h 0 _ rfl, h 1 _ rfl, h 2 _ rfl⟩
theorem vg_set (xs : List V3) : ∀ (k : Nat) (v : V3), (((xs.flatMap vg).set (k * 3) (.int .i64 v.1)).set (k * 3 + 1) (.int .i64 v.2.1)).set (k * 3 + 2) (.int .i64 v.2.2) = (xs.set k v).flatMap vg := by
  induction xs with
  | nil => intro k v; simp
  | cons x xs ih =>
    intro k v
    match k with
    | 0 => simp [vg]
    | k + 1 =>
      have := ih k v
      rw [show (k + 1) * 3 = k * 3 + 1 + 1 + 1 by omega]
      simp only [List.flatMap_cons, List.set_cons_succ, ← this]
      simp [vg]
end

section
open Go.RowKit Go.ChangeShapes Go.WideShapes

/-- the kinds of a cell: an integer, a bool, a string -/
inductive Kd where
  | int | bool | str
def Kd.ok : Kd → Value → Prop
  | .int, v => ∃ z : Int, v = .int .i64 z ∧ (Lit.int .i64 z).wf = true
  | .bool, v => ∃ b : Bool, v = .bool b
  | .str, v => ∃ s : ByteArray, v = .string s ∧ s.size ≤ maxLen
/-- cells of these kinds -/
def KS : List Kd → List Value → Prop
  | [], vs => vs = []
  | k :: ks, vs => ∃ (v : Value) (r : List Value), vs = v :: r ∧ k.ok v ∧ KS ks r
theorem KS.len : ∀ {ks : List Kd} {vs : List Value}, KS ks vs → vs.length = ks.length
  | [], _, h => by
    have h : _ = [] := h
    subst h
    rfl
  | _ :: _, _, h => by
    obtain ⟨v, r, rfl, _, hr⟩ := h
    simp [hr.len]
theorem KS.app : ∀ {ks ls : List Kd} {vs us : List Value}, KS ks vs → KS ls us → KS (ks ++ ls) (vs ++ us)
  | [], _, _, _, h, h' => by
    have h : _ = [] := h
    subst h
    exact h'
  | _ :: _, _, _, _, h, h' => by
    obtain ⟨v, r, rfl, hv, hr⟩ := h
    exact ⟨v, _, rfl, hv, hr.app h'⟩
/-- whatever reads at type t is cells of these kinds -/
def FlatS (P : Program) (t : TypeId) (ks : List Kd) : Prop :=
  ∀ (H : Type) (enc : TypeId × Value → H) (w : World) (base : Nat) (spare : Nat → Bool) (held : Bool) (fuel : Nat) (cs : List Value) (x : DataW H × List MemPlace),
    DataW.trod enc P w base spare held fuel t cs = some x → KS ks cs
theorem flatS_int {P : Program} {t : TypeId} (ht : P.underlying t = some (.int .i64)) : FlatS P t [.int] := by
  intro H enc w base spare held fuel cs x h
  obtain ⟨n, rfl, _, hw⟩ := DataW.trod_int ht h
  exact ⟨_, [], rfl, ⟨n, rfl, hw⟩, rfl⟩
theorem flatS_bool {P : Program} {t : TypeId} (ht : P.underlying t = some .bool) : FlatS P t [.bool] := by
  intro H enc w base spare held fuel cs x h
  obtain ⟨b, rfl, _⟩ := DataW.trod_bool ht h
  exact ⟨_, [], rfl, ⟨b, rfl⟩, rfl⟩
theorem flatS_str {P : Program} {t : TypeId} (ht : P.underlying t = some .string) : FlatS P t [.str] := by
  intro H enc w base spare held fuel cs x h
  obtain ⟨s, rfl, _, hs⟩ := DataW.trod_string ht h
  exact ⟨_, [], rfl, ⟨s, rfl, hs⟩, rfl⟩
/-- the fields of a struct, from a place on: each of its kinds, one behind the other -/
def FlatSs (P : Program) : List Field → Nat → List (List Kd) → Nat → Prop
  | [], o, ks, n => ks = [] ∧ o = n
  | f :: fs, o, ks, n => ∃ a r, ks = a :: r ∧ f.offset = o ∧ P.cellsOf f.type = a.length ∧ FlatS P f.type a ∧ FlatSs P fs (o + a.length) r n
theorem flatS_fields {P : Program} {H : Type} {enc : TypeId × Value → H} {w : World} {base : Nat} {spare : Nat → Bool} {held : Bool} {m : Nat} {cs : List Value} {n : Nat} (hn : cs.length = n) :
    ∀ (fs : List Field) (o : Nat) (ks : List (List Kd)), FlatSs P fs o ks n → (∀ f ∈ fs, ∃ y, DataW.trod enc P w base spare held m f.type ((cs.drop f.offset).take (P.cellsOf f.type)) = some y) →
      KS ks.flatten (cs.drop o) := by
  intro fs
  induction fs with
  | nil =>
    intro o ks h _
    obtain ⟨rfl, rfl⟩ := h
    show cs.drop o = []
    simp; omega
  | cons f fs ih =>
    intro o ks h hy
    obtain ⟨a, r, rfl, ho, hc, hf, hr⟩ := h
    obtain ⟨y, hy0⟩ := hy f (by simp)
    have k0 := hf _ _ _ _ _ _ _ _ _ hy0
    have k1 := ih _ _ hr (fun g hg => hy g (by simp [hg]))
    rw [hc, ho] at k0
    have := k0.app k1
    rwa [← List.drop_drop, List.take_append_drop] at this
theorem flatSS {P : Program} {t : TypeId} {fs : Array Field} {n : Nat} {ks : List (List Kd)} (ht : P.underlying t = some (.struct fs)) (hn : P.cellsOf t = n) (hf : FlatSs P fs.toList 0 ks n) : FlatS P t ks.flatten := by
  intro H enc w base spare held fuel cs x h
  obtain ⟨xs, m, _, _, hl, hlen, hg⟩ := DataW.trod_struct ht h
  have := flatS_fields (hl.trans hn) fs.toList 0 ks hf (fun f hfm => by
    obtain ⟨i, hi, rfl⟩ := List.getElem_of_mem hfm
    have hi' : i < fs.size := by simpa using hi
    have := hg i _ (by simp [hi'] : fs[i]? = some fs.toList[i])
    exact ⟨xs[i]'(by omega), by rw [this]; simp [show i < xs.length by omega]⟩)
  simpa only [List.drop_zero] using this
/-- a struct argument, opened -/
theorem open_flatS {P : Program} {t : TypeId} {fs : Array Field} {ks : List Kd} (ht : P.underlying t = some (.struct fs)) (hF : FlatS P t ks) {H : Type} {enc : TypeId × Value → H} {w : World} {base : Nat} {spare : Nat → Bool} {held : Bool} {r : Reach} {b0 : Nat} {v : Value}
    {d : DataW H} {p : List MemPlace} (hv : Value.okWide P w r b0 t v) (h : DataW.Trod enc P w base spare held t v d p) : ∃ vs : List Value, v = .agg ⟨vs⟩ ∧ KS ks vs := by
  obtain ⟨cs, rfl, hsz⟩ := okWide_struct ht hv
  obtain ⟨fuel, hf⟩ := h
  exact ⟨cs.toList, rfl, by simpa [Value.cells] using hF _ _ _ _ _ _ _ _ _ hf⟩
/-- a slice argument of such structs, opened -/
theorem rows_of_kinds {α : Type} {P : Program} {t e : TypeId} {ks : List Kd} (dec : List Value → α) (g : α → List Value) (hd : ∀ vs, KS ks vs → g (dec vs) = vs) (ht : P.underlying t = some (.slice e)) (hn : P.cellsOf e = ks.length) (hF : FlatS P e ks) (hn0 : 0 < ks.length)
    {H : Type} {enc : TypeId × Value → H} {w : World} {base : Nat} {spare : Nat → Bool} {held : Bool} {A : Option Addr} {len cap : Nat} {d : DataW H} {p : List MemPlace} (h : DataW.Trod enc P w base spare held t (.slice A len cap) d p) :
    ∃ xs : List α, len = xs.length ∧ RowC ks.length g w w.heap.size A xs ∧ xs.length ≤ maxLen ∧ ∀ x ∈ xs, KS ks (g x) := by
  obtain ⟨fuel, hf⟩ := h
  rcases Deep.open_slice ht hf with ⟨hcs, _⟩ | ⟨a, l, c, m, k, D, Pl, hcs, _, hl, hm, hmm, _, hi⟩
  · simp [Value.cells] at hcs
    obtain ⟨rfl, rfl, rfl⟩ := hcs
    exact ⟨[], rfl, RowC.nil, Nat.zero_le _, fun x hx => by cases hx⟩
  · simp [Value.cells] at hcs
    obtain ⟨rfl, rfl, rfl⟩ := hcs
    have hlm : len ≤ m := by rw [hmm]; split <;> omega
    obtain ⟨ys, hy, hp⟩ := list_of (P := fun i (zs : List Value) => KS ks zs ∧ ∀ j, j < ks.length → w.cell? (a.add (i * ks.length + j)) = zs[j]?) len (fun i hlt => by
      obtain ⟨cs', hc, ht'⟩ := hi i (by omega)
      have hk := hF _ _ _ _ _ _ _ _ _ ht'
      obtain ⟨_, _, hat⟩ := World.cells?_some hc
      refine ⟨cs', hk, fun j hj => ?_⟩
      have := hat j (by omega)
      rw [hn, Deep.add_add] at this
      exact this)
    refine ⟨ys.map dec, by simp [hy], fun h0 => ?_, by simp; omega, fun x hx => ?_⟩
    · have h0 : 0 < ys.length := by simpa using h0
      obtain ⟨hz0, hz1⟩ := hp 0 h0
      have hc0 := hz1 0 hn0
      obtain ⟨b, o, s⟩ := a
      have h00 : 0 < (ys[0]).length := by rw [hz0.len]; exact hn0
      have hs : s = none := by
        rw [List.getElem?_eq_getElem h00] at hc0
        simpa [Addr.add] using World.cell?_spot hc0
      subst hs
      have ea : ∀ k, (⟨b, o, none⟩ : Addr).add k = ⟨b, o + k, none⟩ := fun k => by unfold Addr.add; split <;> simp_all
      refine ⟨b, o, rfl, ?_, fun k hk j v hv => ?_⟩
      · rw [List.getElem?_eq_getElem h00, ea] at hc0
        exact World.block_lt_of_cell? w _ hc0
      · have hk' : k < ys.length := by simpa using hk
        obtain ⟨hzl, hzc⟩ := hp k hk'
        have hv' : (ys[k])[j]? = some v := by
          rw [← hd _ hzl]
          simpa using hv
        have hj : j < ks.length := by
          have := (List.getElem?_eq_some_iff.1 hv').1
          rwa [hzl.len] at this
        have := hzc j hj
        rw [ea, hv', ← Nat.add_assoc] at this
        exact this
    · obtain ⟨y, hy', rfl⟩ := List.mem_map.1 hx
      obtain ⟨i, hi', rfl⟩ := List.getElem_of_mem hy'
      have := (hp i hi').1
      rwa [hd _ this]
/-- a token, as a list's element -/
abbrev Tk := Int × ByteArray × Int × Int
def tkg (v : Tk) : List Value := [.int .i64 v.1, .string v.2.1, .int .i64 v.2.2.1, .int .i64 v.2.2.2]
theorem tkg_len (v : Tk) : (tkg v).length = 4 := rfl
def tk4 : List Value → Tk
  | [.int .i64 a, .string s, .int .i64 b, .int .i64 c] => (a, s, b, c)
  | _ => (0, ByteArray.empty, 0, 0)
theorem tkg_tk4 (vs : List Value) (h : KS [.int, .str, .int, .int] vs) : tkg (tk4 vs) = vs := by
  obtain ⟨_, _, rfl, ⟨a, rfl, _⟩, _, _, rfl, ⟨s, rfl, _⟩, _, _, rfl, ⟨b, rfl, _⟩, _, _, rfl, ⟨c, rfl, _⟩, rfl⟩ := h
  rfl
/-- what a token's cells may be -/
def TkOk (v : Tk) : Prop := (Lit.int .i64 v.1).wf = true ∧ v.2.1.size ≤ maxLen ∧ (Lit.int .i64 v.2.2.1).wf = true ∧ (Lit.int .i64 v.2.2.2).wf = true
theorem tkOk_of {v : Tk} (h : KS [.int, .str, .int, .int] (tkg v)) : TkOk v := by
  obtain ⟨_, _, h0, ⟨a, rfl, ha⟩, _, _, h1, ⟨s, rfl, hs⟩, _, _, h2, ⟨b, rfl, hb⟩, _, _, h3, ⟨c, rfl, hc⟩, h4⟩ := h
  subst h1 h2 h3 h4
  unfold tkg at h0
  injection h0 with e0 h0
  injection h0 with e1 h0
  injection h0 with e2 h0
  injection h0 with e3 h0
  injection e0 with _ e0
  injection e1 with e1
  injection e2 with _ e2
  injection e3 with _ e3
  exact ⟨by rw [e0]; exact ha, by rw [e1]; exact hs, by rw [e2]; exact hb, by rw [e3]; exact hc⟩
end

section
open Go.RowKit

def dig (n : Nat) (acc : List UInt8) : List UInt8 := if _h : n = 0 then acc else dig (n / 10) ((48 + n % 10).toUInt8 :: acc)
termination_by n
decreasing_by omega
def strOf (l : List UInt8) : ByteArray := ⟨l.toArray⟩
def markP (n : Nat) : ByteArray := strOf (109 :: dig n [])
abbrev Str : ByteArray → Value := Value.string
theorem strOf_size (l : List UInt8) : (strOf l).size = l.length := by simp [strOf, ByteArray.size]
theorem strOf_append (l m : List UInt8) : strOf l ++ strOf m = strOf (l ++ m) := by
  apply ByteArray.ext
  simp [strOf]
theorem strOf_one (c : UInt8) (m : List UInt8) : (⟨#[c]⟩ : ByteArray) ++ strOf m = strOf (c :: m) := strOf_append [c] m
theorem dig_step (m : Nat) (acc : List UInt8) (h : 0 < m) : dig (m / 10) ((48 + m % 10).toUInt8 :: acc) = dig m acc := by
  rw [dig.eq_1 m acc, dif_neg (by omega)]
theorem dig_zero (acc : List UInt8) : dig 0 acc = acc := by rw [dig.eq_1, dif_pos rfl]
theorem ret_int' {k : IntKind} {a b : Int} (h : a = b) : Ending.returned (.int k a) = .returned (.int k b) := by rw [h]
theorem ret_str {a b : ByteArray} (h : a = b) : Ending.returned (.string a) = .returned (.string b) := by rw [h]
/-- 'string' of a new one-byte slice -/
theorem run_conv_one (P : Program) (w : World) (src dst e : TypeId) (hs : P.underlying src = some (.slice e)) (he : P.underlying e = some (.int .u8)) (hd : P.underlying dst = some .string) (z : Int) (h0 : 0 ≤ z) (h1 : z < 256) :
    (convert src dst (.slice (some ⟨w.heap.size, 0, none⟩) 1 1)).run P (w.alloc (.cells #[.int .u8 z] e)) = .ok (.string (strOf [z.toNat.toUInt8])) (w.alloc (.cells #[.int .u8 z] e)) := by
  refine run_convert_bytes_back (P := P) (w.alloc (.cells #[.int .u8 z] e)) src dst e ⟨w.heap.size, 0, none⟩ 1 [z.toNat.toUInt8] hs he hd (fun j hj => ?_)
  obtain rfl : j = 0 := by simp at hj; omega
  simp [Addr.add]
  omega




end

section
open Go.RowKit

def hashP (xs : List Int) : Int := xs.foldl (fun h x => (31 * h + clampP x (-1000000000) 1000000000) % 1000003) 17
theorem hashP_bd (xs : List Int) : 0 ≤ hashP xs ∧ hashP xs < 1000003 := by
  unfold hashP
  suffices H : ∀ (xs : List Int) (a : Int), 0 ≤ a → a < 1000003 → 0 ≤ xs.foldl (fun h x => (31 * h + clampP x (-1000000000) 1000000000) % 1000003) a ∧ xs.foldl (fun h x => (31 * h + clampP x (-1000000000) 1000000000) % 1000003) a < 1000003 from H xs 17 (by omega) (by omega)
  intro xs
  induction xs with
  | nil => intro a h0 h1; exact ⟨h0, h1⟩
  | cons x r ih => intro a h0 h1; exact ih _ (Int.emod_nonneg _ (by omega)) (Int.emod_lt_of_pos _ (by omega))
theorem hashP_step (xs : List Int) (k : Nat) (h : k < xs.length) : hashP (xs.take (k + 1)) = (31 * hashP (xs.take k) + clampP xs[k] (-1000000000) 1000000000) % 1000003 := by
  unfold hashP
  rw [List.take_succ_eq_append_getElem h, List.foldl_append]; rfl
abbrev I64 : Int → Value := Value.int .i64
theorem infoInt : (Try.prog.info? 3).map (fun i => (i.zero, i.size, i.bytes)) = some (some (.int .i64 0), 1, 8) := by kernel_rfl






end

section
open Go.RowKit Go.ChangeShapes Go.WideShapes

/-- a slice at address A, below block B, whose elements are slices of integers that read as 'xss' -/
def RowSS (w : World) (B : Nat) (A : Option Addr) (xss : List (List Int)) : Prop :=
  0 < xss.length → ∃ b o, A = some ⟨b, o, none⟩ ∧ b < B ∧ ∀ k (h : k < xss.length), ∃ a c, w.cell? ⟨b, o + k, none⟩ = some (.slice a xss[k].length c) ∧ xss[k].length ≤ c ∧ c ≤ maxLen ∧ Row (Value.int .i64) w B a xss[k]
section
variable {w w' : World} {B B' : Nat} {A : Option Addr} {xss : List (List Int)}
theorem RowSS.nil : RowSS w B A [] := fun h => by simp at h
theorem RowSS.at (h : RowSS w B A xss) {k : Nat} (hk : k < xss.length) : ∃ b o a c, A = some ⟨b, o, none⟩ ∧ b < B ∧ w.cell? ⟨b, o + k, none⟩ = some (.slice a xss[k].length c) ∧ xss[k].length ≤ c ∧ c ≤ maxLen ∧ Row (Value.int .i64) w B a xss[k] := by
  obtain ⟨b, o, e, hb, hc⟩ := h (by omega)
  obtain ⟨a, c, h1, h2, h3, h4⟩ := hc k hk
  exact ⟨b, o, a, c, e, hb, h1, h2, h3, h4⟩
theorem RowSS.keep (h : RowSS w B A xss) (hk : ∀ p : Addr, p.block < B → w'.cell? p = w.cell? p) : RowSS w' B A xss := fun hn => by
  obtain ⟨b, o, e, hb, hc⟩ := h hn
  refine ⟨b, o, e, hb, fun k hk' => ?_⟩
  obtain ⟨a, c, h1, h2, h3, h4⟩ := hc k hk'
  exact ⟨a, c, (hk _ hb).trans h1, h2, h3, h4.keep hk⟩
theorem RowSS.more (h : RowSS w B A xss) (hB : B ≤ B') : RowSS w B' A xss := fun hn => by
  obtain ⟨b, o, e, hb, hc⟩ := h hn
  refine ⟨b, o, e, by omega, fun k hk' => ?_⟩
  obtain ⟨a, c, h1, h2, h3, h4⟩ := hc k hk'
  exact ⟨a, c, h1, h2, h3, h4.more hB⟩
theorem RowSS.below (h : RowSS w B A xss) (hb : Below B w w') : RowSS w' B A xss := h.keep fun _ hp => hb.cell hp
theorem RowSS.later (h : RowSS w w.heap.size A xss) (hb : Below w.heap.size w w') : RowSS w' w'.heap.size A xss := (h.below hb).more hb.size
theorem RowSS.alloc (h : RowSS w B A xss) (hB : B ≤ w.heap.size) (o : Obj) : RowSS (w.alloc o) B A xss := h.keep fun p hp => World.cell?_alloc_lt w o p (by omega)
end
/-- what the reading of a slice of slices of integers gives -/
theorem rowSS_of {P : Program} {t e i : TypeId} (ht : P.underlying t = some (.slice e)) (he : P.underlying e = some (.slice i)) (hi : P.underlying i = some (.int .i64)) (hce : P.cellsOf e = 1) (hci : P.cellsOf i = 1)
    {H : Type} {enc : TypeId × Value → H} {w : World} {base : Nat} {spare : Nat → Bool} {held : Bool} {v : Value} {fuel : Nat} {x : DataW H × List MemPlace} (h : DataW.trod enc P w base spare held fuel t [v] = some x) :
    ∃ (A : Option Addr) (cap : Nat) (xss : List (List Int)), v = .slice A xss.length cap ∧ RowSS w w.heap.size A xss ∧ xss.length ≤ maxLen ∧ ∀ xs ∈ xss, xs.length ≤ maxLen := by
  rcases Deep.open_slice1 ht hce h with ⟨hcs, _⟩ | ⟨a, l, c, m, n, V, D, Pl, hcs, _, hl, hm, hmm, _, hel⟩
  · simp at hcs
    exact ⟨none, 0, [], hcs, RowSS.nil, Nat.zero_le _, fun xs hx => by cases hx⟩
  · simp at hcs
    have hlm : l ≤ m := by rw [hmm]; split <;> omega
    obtain ⟨ys, hy, hp⟩ := list_of (P := fun i (xs : List Int) => ∃ a' c', w.cell? (a.add i) = some (.slice a' xs.length c') ∧ xs.length ≤ c' ∧ c' ≤ maxLen ∧ Row (Value.int .i64) w w.heap.size a' xs) l (fun i0 hlt => by
      obtain ⟨h1, h2⟩ := hel i0 (by omega)
      rcases open_ints he hi hci h2 with ⟨hcs, _⟩ | ⟨a', l', c', zs, hcs, _, hl', hm', hz, _, hcell, _⟩
      · simp at hcs
        exact ⟨[], none, 0, by rw [h1, hcs]; rfl, Nat.le_refl _, Nat.zero_le _, Row.nil⟩
      · simp at hcs
        have hlz : l' ≤ zs.length := by rw [hz]; split <;> omega
        have hzm : zs.length ≤ maxLen := by rw [hz]; split <;> omega
        obtain ⟨xs, hxl, hr, _, _⟩ := row_of_cells (f := Value.int .i64) (zs := zs) (d := (0 : Int)) (p := fun _ => True) hlz hzm rfl hcell (fun _ _ => trivial)
        exact ⟨xs, some a', c', by rw [h1, hcs, hxl], by omega, hm', hr⟩)
    subst hcs
    refine ⟨some a, c, ys, by rw [hy], fun h0 => ?_, by omega, fun xs hx => ?_⟩
    · obtain ⟨a0, c0, h1, _⟩ := hp 0 h0
      obtain ⟨b, o, s⟩ := a
      have hs : s = none := by simpa [Addr.add] using World.cell?_spot h1
      subst hs
      have ea : ∀ k, (⟨b, o, none⟩ : Addr).add k = ⟨b, o + k, none⟩ := fun k => by unfold Addr.add; split <;> simp_all
      refine ⟨b, o, rfl, ?_, fun k hk => ?_⟩
      · rw [ea] at h1
        exact World.block_lt_of_cell? w _ h1
      · obtain ⟨a1, c1, h1, h2, h3, h4⟩ := hp k hk
        rw [ea] at h1
        exact ⟨a1, c1, h1, h2, h3, h4⟩
    · obtain ⟨k, hk, rfl⟩ := List.getElem_of_mem hx
      obtain ⟨a1, c1, _, h2, h3, _⟩ := hp k hk
      omega
/-- what the reading of a slice of flat elements gives, of one cell that holds the slice -/
theorem rowC_of {α : Type} {P : Program} {t e : TypeId} {n : Nat} (dec : List Int → α) (g : α → List Value) (hd : ∀ zs : List Int, zs.length = n → g (dec zs) = zs.map (Value.int .i64)) (ht : P.underlying t = some (.slice e)) (hn : P.cellsOf e = n) (hF : FlatI P e n) (hn0 : 0 < n)
    {H : Type} {enc : TypeId × Value → H} {w : World} {base : Nat} {spare : Nat → Bool} {held : Bool} {v : Value} {fuel : Nat} {x : DataW H × List MemPlace} (h : DataW.trod enc P w base spare held fuel t [v] = some x) :
    ∃ (A : Option Addr) (cap : Nat) (xs : List α), v = .slice A xs.length cap ∧ RowC n g w w.heap.size A xs ∧ xs.length ≤ maxLen := by
  have hv : ∃ A len cap, v = .slice A len cap := by
    rcases Deep.open_slice ht h with ⟨hcs, _⟩ | ⟨a, l, c, m, k, D, Pl, hcs, _⟩
    · simp at hcs; exact ⟨_, _, _, hcs⟩
    · simp at hcs; exact ⟨_, _, _, hcs⟩
  obtain ⟨A, len, cap, rfl⟩ := hv
  obtain ⟨xs, rfl, hr, hl⟩ := rows_of_flat (A := A) (len := len) (cap := cap) (d := x.1) (p := x.2) dec g hd ht hn hF hn0 ⟨fuel, h⟩
  exact ⟨A, cap, xs, rfl, hr, hl⟩
/-- a struct of two fields of one cell each, opened -/
theorem open_pair {P : Program} {t : TypeId} {f0 f1 : Field} (ht : P.underlying t = some (.struct #[f0, f1])) (hn : P.cellsOf t = 2) (o0 : f0.offset = 0) (o1 : f1.offset = 1) (n0 : P.cellsOf f0.type = 1) (n1 : P.cellsOf f1.type = 1)
    {H : Type} {enc : TypeId × Value → H} {w : World} {base : Nat} {spare : Nat → Bool} {held : Bool} {r : Reach} {b0 : Nat} {v : Value} {d : DataW H} {p : List MemPlace} (hv : Value.okWide P w r b0 t v) (h : DataW.Trod enc P w base spare held t v d p) :
    ∃ v0 v1 m x0 x1, v = .agg #[v0, v1] ∧ DataW.trod enc P w base spare held m f0.type [v0] = some x0 ∧ DataW.trod enc P w base spare held m f1.type [v1] = some x1 := by
  obtain ⟨cs, rfl, hsz⟩ := okWide_struct ht hv
  obtain ⟨fuel, hf⟩ := h
  obtain ⟨xs, m, _, _, hl, hlen, hg⟩ := DataW.trod_struct ht hf
  simp only [Value.cells] at hg
  obtain ⟨l⟩ := cs
  rw [hn] at hsz
  match l, hsz with
  | [v0, v1], _ =>
    have h0 := hg 0 f0 rfl
    have h1 := hg 1 f1 rfl
    rw [o0, n0] at h0
    rw [o1, n1] at h1
    have hlen : xs.length = 2 := hlen
    exact ⟨v0, v1, m, xs[0], xs[1], rfl, by simpa [hlen] using h0, by simpa [hlen] using h1⟩

/-- a block of one slice of integers, kept by its cells; what a call made -/
abbrev Lot := List (Nat × List Int)
def hdr (p : Nat × List Int) : Value := .slice (some ⟨p.1, 0, none⟩) p.2.length p.2.length
/-- the blocks hold their integers, all may be written, and no two are one -/
def Lots (w : World) (ps : Lot) : Prop := (ps.map Prod.fst).Nodup ∧ ∀ p ∈ ps, Mbox w p.1 (p.2.map (Value.int .i64)) ∧ p.1 < w.heap.size
section
variable {w w' : World} {ps : Lot} {lo : Nat}
theorem Lots.nil (w : World) : Lots w [] := ⟨List.nodup_nil, fun p h => by cases h⟩
theorem Lots.keep (h : Lots w ps) (hs : w.heap.size ≤ w'.heap.size) (hb : ∀ p ∈ ps, w'.heap[p.1]? = w.heap[p.1]?) : Lots w' ps :=
  ⟨h.1, fun p hp => ⟨(h.2 p hp).1.keep fun _ => hb p hp, Nat.lt_of_lt_of_le (h.2 p hp).2 hs⟩⟩
theorem Lots.later (h : Lots w ps) (hb : Below w.heap.size w w') : Lots w' ps := h.keep hb.size fun p hp => hb.block _ (h.2 p hp).2
theorem Lots.alloc (h : Lots w ps) (o : Obj) : Lots (w.alloc o) ps := h.keep (by simp) fun p hp => Below.heap_alloc w o _ (h.2 p hp).2
theorem Lots.drew (h : Lots w ps) : Lots w.drew ps := h
theorem Lots.grown {row : Option Nat} (h : Lots w ps) (hg : w.grownBy w' row) (hr : ∀ p ∈ ps, some p.1 ≠ row) : Lots w' ps := h.keep hg.size fun p hp => hg.block _ (h.2 p hp).2 (hr p hp)
theorem Lots.far (h : Lots w ps) {g i : Nat} (hg : ∀ p ∈ ps, p.1 ≠ g) (v : Value) : Lots (w.setCell ⟨g, i, none⟩ v) ps := h.keep (by simp) fun p hp => Below.heap_setCell w _ v _ (hg p hp)
theorem Lots.new (h : Lots w ps) (xs : List Int) (cs : Array Value) (hc : cs.toList = xs.map (Value.int .i64)) (t : TypeId) : Lots (w.alloc (.cells cs t)) (ps ++ [(w.heap.size, xs)]) := by
  refine ⟨?_, fun p hp => ?_⟩
  · rw [List.map_append, List.nodup_append]
    refine ⟨h.1, by simp, fun a ha b hb => ?_⟩
    simp at hb
    obtain ⟨p, hp, rfl⟩ := List.mem_map.1 ha
    have := (h.2 p hp).2
    omega
  · rcases List.mem_append.1 hp with hp | hp
    · exact (h.alloc _).2 p hp
    · rw [List.mem_singleton] at hp
      subst hp
      have := Mbox.new w cs t
      rw [hc] at this
      exact ⟨this, by simp⟩
theorem Lots.perm {qs : Lot} (h : Lots w ps) (hp : qs.Perm ps) : Lots w qs := ⟨(hp.map _).nodup_iff.2 h.1, fun p hq => h.2 p (hp.mem_iff.1 hq)⟩
theorem Lots.row (h : Lots w ps) {p : Nat × List Int} (hp : p ∈ ps) : Row (Value.int .i64) w w.heap.size (some ⟨p.1, 0, none⟩) p.2 := fun _ => by
  refine ⟨p.1, 0, rfl, (h.2 p hp).2, fun k hk => ?_⟩
  have := (h.2 p hp).1.c k (v := .int .i64 p.2[k]) (by simp [hk])
  rw [Nat.zero_add]
  exact this
/-- a slice whose elements are such -/
theorem Lots.rowSS {A : Option Addr} (h : Lots w ps) (hA : Row hdr w w.heap.size A ps) (hm : ∀ p ∈ ps, p.2.length ≤ maxLen) : RowSS w w.heap.size A (ps.map Prod.snd) := fun h0 => by
  obtain ⟨b, o, e, hb, hc⟩ := hA (by simpa using h0)
  refine ⟨b, o, e, hb, fun k hk => ?_⟩
  have hk' : k < ps.length := by simpa using hk
  refine ⟨some ⟨ps[k].1, 0, none⟩, ps[k].2.length, ?_, by simp, by simpa using hm _ (List.getElem_mem hk'), ?_⟩
  · rw [hc k hk']; simp [hdr]
  · have := h.row (List.getElem_mem hk')
    simpa using this
end

/-- only the blocks in S may have turned -/
def Turn (S : Nat → Prop) (w w' : World) : Prop := w'.os = w.os ∧ w'.tape = w.tape ∧ w'.output = w.output ∧ w.heap.size ≤ w'.heap.size ∧ ∀ k, k < w.heap.size → ¬ S k → w'.heap[k]? = w.heap[k]?
section
variable {S S' : Nat → Prop} {w w' w'' : World}
theorem Turn.refl (S : Nat → Prop) (w : World) : Turn S w w := ⟨rfl, rfl, rfl, Nat.le_refl _, fun _ _ _ => rfl⟩
theorem Turn.trans (h : Turn S w w') (k : Turn S w' w'') : Turn S w w'' :=
  ⟨k.1.trans h.1, k.2.1.trans h.2.1, k.2.2.1.trans h.2.2.1, Nat.le_trans h.2.2.2.1 k.2.2.2.1, fun i hi hn => (k.2.2.2.2 i (Nat.lt_of_lt_of_le hi h.2.2.2.1) hn).trans (h.2.2.2.2 i hi hn)⟩
theorem Turn.mono (h : Turn S w w') (hS : ∀ k, S k → S' k) : Turn S' w w' := ⟨h.1, h.2.1, h.2.2.1, h.2.2.2.1, fun i hi hn => h.2.2.2.2 i hi (fun c => hn (hS i c))⟩
theorem Turn.size (h : Turn S w w') : w.heap.size ≤ w'.heap.size := h.2.2.2.1
theorem Turn.block (h : Turn S w w') {k : Nat} (hk : k < w.heap.size) (hn : ¬ S k) : w'.heap[k]? = w.heap[k]? := h.2.2.2.2 k hk hn
theorem Turn.below {B : Nat} (h : Turn S w w') (hB : B ≤ w.heap.size) (hS : ∀ k, S k → B ≤ k) : Below B w w' :=
  ⟨h.1, h.2.1, h.2.2.1, h.2.2.2.1, fun k hk => h.block (by omega) (fun c => by have := hS k c; omega)⟩
theorem Turn.of_grown {g : Nat} (h : w.grownBy w' (some g)) : Turn (fun k => k = g) w w' := ⟨h.os, h.tape, h.output, h.size, fun k hk hn => h.block k hk (fun e => by injection e with e; exact hn e)⟩
theorem Turn.of_below {B : Nat} (h : Below B w w') : Turn (fun k => B ≤ k) w w' := ⟨h.os, h.tape, h.output, h.size, fun k _ hn => h.block k (by omega)⟩
theorem Turn.of_later (h : Below w.heap.size w w') : Turn S w w' := ⟨h.os, h.tape, h.output, h.size, fun k hk _ => h.block k hk⟩
theorem Turn.grown {g : Nat} (h : Turn (fun k => k = g) w w') : w.grownBy w' (some g) := ⟨h.1, h.2.1, h.2.2.1, h.2.2.2.1, fun k hk hn => h.block hk (fun e => hn (by rw [e]))⟩
theorem Turn.setCell (h : Turn S w w') {g i : Nat} (hg : S g) (v : Value) : Turn S w (w'.setCell ⟨g, i, none⟩ v) :=
  ⟨h.1, h.2.1, h.2.2.1, by simpa using h.2.2.2.1, fun k hk hn => (Below.heap_setCell w' _ v k (fun e => hn (by have e : k = g := e; rw [e]; exact hg))).trans (h.block hk hn)⟩
theorem Lots.turn {ps : Lot} (h : Lots w ps) (ht : Turn S w w') (hn : ∀ p ∈ ps, ¬ S p.1) : Lots w' ps := h.keep ht.size fun p hp => ht.block (h.2 p hp).2 (hn p hp)
theorem Mbox.turn {k : Nat} {vs : List Value} (h : Mbox w k vs) (ht : Turn S w w') (hn : ¬ S k) : Mbox w' k vs := h.keep fun hl => ht.block hl hn
end
/-- a row whose block is named -/
theorem Row.keepAt {α : Type} {f : α → Value} {w w' : World} {B b o : Nat} {xs : List α} (h : Row f w B (some ⟨b, o, none⟩) xs) (hb : w'.heap[b]? = w.heap[b]?) : Row f w' B (some ⟨b, o, none⟩) xs := fun hn => by
  obtain ⟨b1, o1, e, hb1, hc⟩ := h hn
  simp only [Option.some.injEq, Addr.mk.injEq, and_true] at e
  obtain ⟨rfl, rfl⟩ := e
  exact ⟨b, o, rfl, hb1, fun k hk => (World.cell?_of_block (a := ⟨b, o + k, none⟩) hb).trans (hc k hk)⟩
theorem Mbox.of_own {w : World} {base : Nat} {e : TypeId} {m : Nat} {g n c : Nat} {xs : List Value} (h : w.ownsRow base e m (.slice (some ⟨g, 0, none⟩) n c) n xs) : Mbox w g xs := fun i v hv => by
  have hl : i < n * m := by
    have h1 := (List.getElem?_eq_some_iff.1 hv).1
    have h2 := h.1
    omega
  exact ⟨(h.cellAt i hl).trans hv, h.frozenAt i⟩
theorem Mbox.row {w : World} {g : Nat} {xs : List Int} (h : Mbox w g (xs.map (Value.int .i64))) (hg : g < w.heap.size) : Row (Value.int .i64) w w.heap.size (some ⟨g, 0, none⟩) xs := fun _ => by
  refine ⟨g, 0, rfl, hg, fun k hk => ?_⟩
  rw [Nat.zero_add]
  exact h.c k (by simp [hk])
theorem Mbox.rowC {α : Type} {n : Nat} {f : α → List Value} (hf : ∀ x, (f x).length = n) {w : World} {g : Nat} {xs : List α} (h : Mbox w g (xs.flatMap f)) (hg : g < w.heap.size) : RowC n f w w.heap.size (some ⟨g, 0, none⟩) xs := fun _ => by
  refine ⟨g, 0, rfl, hg, fun k hk j v hv => ?_⟩
  rw [Nat.zero_add]
  refine h.c (k * n + j) ?_
  rw [flat_get hf xs k j hk (by have := (List.getElem?_eq_some_iff.1 hv).1; rwa [hf] at this)]
  exact hv
end

section
open Go.RowKit

abbrev tok (a : Int) (s : ByteArray) (b c : Int) : Value := .agg #[.int .i64 a, .string s, .int .i64 b, .int .i64 c]
abbrev tkv (v : Tk) : Value := tok v.1 v.2.1 v.2.2.1 v.2.2.2
def TokOut (a : Int) (s : ByteArray) (b c : Int) (w : World) (x : Ending) (w' : World) : Prop := x = .returned (tok a s b c) ∧ Below w.heap.size w w'
def BoolT (b : Bool) (w : World) (x : Ending) (w' : World) : Prop := x = .returned (.bool b) ∧ Below w.heap.size w w'
theorem tkg_at {w : World} {b o : Nat} {v : Tk} (h : ∀ j u, (tkg v)[j]? = some u → w.cell? ⟨b, o + j, none⟩ = some u) :
    w.cell? ⟨b, o, none⟩ = some (.int .i64 v.1) ∧ w.cell? ⟨b, o + 1, none⟩ = some (.string v.2.1) ∧ w.cell? ⟨b, o + 2, none⟩ = some (.int .i64 v.2.2.1) ∧ w.cell? ⟨b, o + 3, none⟩ = some (.int .i64 v.2.2.2) :=
  ⟨h 0 _ rfl, h 1 _ rfl, h 2 _ rfl, h 3 _ rfl⟩
theorem tkg_set (xs : List Tk) : ∀ (k : Nat) (v : Tk), ((((xs.flatMap tkg).set (k * 4) (.int .i64 v.1)).set (k * 4 + 1) (.string v.2.1)).set (k * 4 + 2) (.int .i64 v.2.2.1)).set (k * 4 + 3) (.int .i64 v.2.2.2) = (xs.set k v).flatMap tkg := by
  induction xs with
  | nil => intro k v; simp
  | cons x xs ih =>
    intro k v
    match k with
    | 0 => simp [tkg]
    | k + 1 =>
      have := ih k v
      simp only [List.flatMap_cons, List.set_cons_succ]
      rw [← this]
      have e0 : (k + 1) * 4 = k * 4 + 1 + 1 + 1 + 1 := by omega
      rw [e0]
      simp [tkg]
theorem infoTok : (Try.prog.info? 79).map (fun i => (i.zero, i.size, i.bytes)) = some (some (tok 0 ByteArray.empty 0 0), 4, 40) := by kernel_rfl
def ToksOut (xs : List Tk) (w : World) (e : Ending) (w' : World) : Prop :=
  ∃ (A : Option Addr) (c : Nat), e = .returned (.slice A xs.length c) ∧ w'.ownsRow w.heap.size 79 4 (.slice A xs.length c) xs.length (xs.flatMap tkg) ∧ Below w.heap.size w w'
/-- 'append(s, x)' of one struct of four cells onto a row of the call's own -/
theorem wpList_app4 {P : Program} {ops : Array Oper} {rest : List Oper} {o : Oper} {a : Act} {Q : Exit → Act → World → Prop} (w0 : World) (hgd : o.guard = none) (s x : Operand) (t : TypeId)
    (ho : o.op = .call { callee := .builtin .append, args := #[s, x], argTypes := #[t, t] }) (base : Nat) (e : TypeId) (z : Value) (bytes : Nat)
    (ht : P.underlying t = some (.slice e)) (hinfo : (P.info? e).map (fun i => (i.zero, i.size, i.bytes)) = some (some z, 4, bytes)) (hzs : z.cells.size = 4)
    (v : Value) (n : Nat) (xs : List Value) (hs : a.eval s = v) (hown : w0.ownsRow base e 4 v n xs) (u0 u1 u2 u3 : Value) (hx : a.eval x = .slice (some ⟨w0.heap.size, 0, none⟩) 1 1) (hu : u0.oneCell' = true ∧ u1.oneCell' = true ∧ u2.oneCell' = true ∧ u3.oneCell' = true)
    (h63 : n + 1 ≤ maxLen) (hbytes : (n + 1) * bytes ≤ 140737488355328) (hbase : base ≤ w0.heap.size)
    (h : ∀ v' w', w'.ownsRow base e 4 v' (n + 1) (xs ++ [u0, u1, u2, u3]) → w0.grownBy w' v.ownBlock → wpList P ops Q rest (a.put o.dst v') w') : wpList P ops Q (o :: rest) a (w0.alloc (.cells #[u0, u1, u2, u3] e)) := by
  obtain ⟨i0, hi, hz0, hz1, hz2⟩ := info_parts hinfo
  refine wpList_append_own _ hgd s x t ho base e i0 z 4 bytes ht hi hz0 hz1 hz2 hzs (by omega) v n xs hs (hown.alloc _) ⟨w0.heap.size, 0, none⟩ 1 1 [u0, u1, u2, u3] hx rfl ?_ ?_ h63 hbytes (by simp; omega) ?_
  · intro j y hj
    have M := Mbox.new w0 #[u0, u1, u2, u3] e
    have := M.c j hj
    rw [Addr.add_mid, Nat.zero_add]
    exact this
  · intro y hy
    simp at hy
    rcases hy with rfl | rfl | rfl | rfl
    · exact hu.1
    · exact hu.2.1
    · exact hu.2.2.1
    · exact hu.2.2.2
  · intro v' w' h1 h2 _
    exact h v' w' h1 ⟨h2.os, h2.tape, h2.output, Nat.le_trans (by simp) h2.size, fun k hk hr => (h2.block k (by simp; omega) hr).trans (Below.heap_alloc w0 _ k hk)⟩
theorem own_tok {w : World} {base : Nat} {e : TypeId} {g n cap : Nat} {xs : List Tk} (h : w.ownsRow base e 4 (.slice (some ⟨g, 0, none⟩) n cap) n (xs.flatMap tkg)) (hn : xs.length = n) {k : Nat} (hk : k < n) :
    ∃ (x : Int) (y : ByteArray) (z p : Int), w.cell? ⟨g, k * 4, none⟩ = some (.int .i64 x) ∧ w.cell? ⟨g, k * 4 + 1, none⟩ = some (.string y) ∧ w.cell? ⟨g, k * 4 + 2, none⟩ = some (.int .i64 z) ∧ w.cell? ⟨g, k * 4 + 3, none⟩ = some (.int .i64 p) := by
  have hk' : k < xs.length := by omega
  have h0 := h.cellAt (k * 4) (by omega)
  have h1 := h.cellAt (k * 4 + 1) (by omega)
  have h2 := h.cellAt (k * 4 + 2) (by omega)
  have h3 := h.cellAt (k * 4 + 3) (by omega)
  rw [← Nat.add_zero (k * 4), flat_get tkg_len xs k 0 hk' (by omega)] at h0
  rw [flat_get tkg_len xs k 1 hk' (by omega)] at h1
  rw [flat_get tkg_len xs k 2 hk' (by omega)] at h2
  rw [flat_get tkg_len xs k 3 hk' (by omega)] at h3
  exact ⟨_, _, _, _, h0, h1, h2, h3⟩
theorem rowC4_drew {α : Type} {n : Nat} {g : α → List Value} {w : World} {A : Option Addr} {xs : List α} (h : RowC n g w w.heap.size A xs) : RowC n g w.drew w.drew.heap.size A xs := h.keep fun _ _ => rfl
/-- the marks -/
def mk4 (k i : Nat) : Tk := (((k + 4 * i : Nat) : Int), markP (k + 4 * i + 1), ((k + 4 * i + 2 : Nat) : Int), ((k + 4 * i + 3 : Nat) : Int))
def marks4 (k n : Nat) : List Tk := (List.range n).map (mk4 k)
theorem marks4_len (k n : Nat) : (marks4 k n).length = n := by simp [marks4]
theorem marks4_at (k n i : Nat) (h : i < (marks4 k n).length) : (marks4 k n)[i] = mk4 k i := by simp [marks4]
def markI4 (k i : Nat) (xs : List Tk) : List Tk := marks4 k i ++ xs.drop i
theorem markI4_zero (k : Nat) (xs : List Tk) : markI4 k 0 xs = xs := by simp [markI4, marks4]
theorem markI4_all (k : Nat) (xs : List Tk) : markI4 k xs.length xs = marks4 k xs.length := by simp [markI4]
theorem markI4_len (k i : Nat) (xs : List Tk) (h : i ≤ xs.length) : (markI4 k i xs).length = xs.length := by simp [markI4, marks4_len]; omega
theorem markI4_step (k i : Nat) (xs : List Tk) (h : i < xs.length) : (markI4 k i xs).set i (mk4 k i) = markI4 k (i + 1) xs := by
  unfold markI4
  rw [List.set_append_right _ _ (by rw [marks4_len]; exact Nat.le_refl _), marks4_len, Nat.sub_self, List.drop_eq_getElem_cons h, List.set_cons_zero]
  have : marks4 k (i + 1) = marks4 k i ++ [mk4 k i] := by
    unfold marks4; rw [List.range_succ, List.map_append]; rfl
  rw [this, List.append_assoc]; rfl
theorem ret_int4 {a b : Int} (h : a = b) : Ending.returned (.int .i64 a) = .returned (.int .i64 b) := by rw [h]
theorem keep_stepT {w W w' : World} {a : Addr} {v : Value} (ha : a.block < w.heap.size) (h : W.cell? a = some v ∧ Below w.heap.size w W) (hb : Below W.heap.size W w') : w'.cell? a = some v ∧ Below w.heap.size w w' :=
  ⟨(hb.cell (Nat.lt_of_lt_of_le ha h.2.size)).trans h.1, h.2.trans (hb.mono h.2.size)⟩
/-- the letters of all the tokens' texts -/
def szT : List Tk → Nat
  | [] => 0
  | x :: xs => x.2.1.size + szT xs
theorem szT_take (xs : List Tk) : ∀ (k : Nat) (h : k < xs.length), szT (xs.take (k + 1)) = szT (xs.take k) + (xs[k]).2.1.size := by
  induction xs with
  | nil => intro k h; simp at h
  | cons x xs ih =>
    intro k h
    match k, h with
    | 0, _ => simp [szT]
    | k + 1, h =>
      have := ih k (by simpa using h)
      simp only [List.take_succ_cons, szT, List.getElem_cons_succ, this]
      omega
theorem szT_mem {xs : List Tk} {x : Tk} (h : x ∈ xs) : x.2.1.size ≤ szT xs := by
  induction xs with
  | nil => cases h
  | cons y ys ih =>
    rcases List.mem_cons.1 h with rfl | h
    · exact Nat.le_add_right _ _
    · exact Nat.le_trans (ih h) (Nat.le_add_left _ _)
theorem szT_le (xs : List Tk) (k : Nat) : szT (xs.take k) ≤ szT xs := by
  induction xs generalizing k with
  | nil => simp [szT]
  | cons x xs ih =>
    match k with
    | 0 => simp [szT]
    | k + 1 =>
      have := ih k
      simp only [List.take_succ_cons, szT]
      omega





theorem made4 (a b c d : Value) (n : Nat) : ∀ (k j : Nat), k < n → j < 4 → ((madeCells #[a, b, c, d] (n * 4)).toList)[k * 4 + j]? = ([a, b, c, d] : List Value)[j]? := by
  intro k j hk hj
  have hlt : k * 4 + j < n * 4 := by omega
  have e : (k * 4 + j) % 4 = j := by omega
  have : j = 0 ∨ j = 1 ∨ j = 2 ∨ j = 3 := by omega
  rcases this with rfl | rfl | rfl | rfl <;>
    (simp only [madeCells, Array.toList_map, Array.toList_range, List.getElem?_map]
     rw [List.getElem?_range (by omega)]
     simp only [Option.map_some]
     simp [e])
def zTk : Tk := (0, ByteArray.empty, 0, 0)
theorem made_tok (n : Nat) : (madeCells #[.int .i64 0, .string ⟨#[]⟩, .int .i64 0, .int .i64 0] (n * 4)).toList = (List.replicate n zTk).flatMap tkg := by
  apply List.ext_getElem?
  intro i
  by_cases h : i < n * 4
  · obtain ⟨k, j, rfl, hj⟩ : ∃ k j, i = k * 4 + j ∧ j < 4 := ⟨i / 4, i % 4, by omega, by omega⟩
    have hk : k < n := by omega
    rw [made4 _ _ _ _ n k j hk hj, flat_get tkg_len _ k j (by simpa using hk) hj, List.getElem_replicate]
    rfl
  · rw [List.getElem?_eq_none (by simp [madeCells]; omega), List.getElem?_eq_none (by rw [flat_len tkg_len]; simp; omega)]
def halfT (xs : List Tk) (k : Nat) : List Tk := xs.take k ++ List.replicate (xs.length - k) zTk
theorem halfT_zero (xs : List Tk) : halfT xs 0 = List.replicate xs.length zTk := by simp [halfT]
theorem halfT_all (xs : List Tk) : halfT xs xs.length = xs := by simp [halfT]
theorem halfT_len (xs : List Tk) (k : Nat) (h : k ≤ xs.length) : (halfT xs k).length = xs.length := by simp [halfT]; omega
theorem halfT_step (xs : List Tk) (k : Nat) (h : k < xs.length) : (halfT xs k).set k xs[k] = halfT xs (k + 1) := by
  unfold halfT
  rw [List.take_succ_eq_append_getElem h, List.set_append_right _ _ (by simp; omega)]
  have e : xs.length - k = (xs.length - (k + 1)) + 1 := by omega
  rw [e, List.replicate_succ]
  simp only [List.length_take, Nat.min_eq_left (Nat.le_of_lt h), Nat.sub_self, List.set_cons_zero, List.append_assoc, List.cons_append, List.nil_append]


def SzTok (L n : Nat) (w : World) (e : Ending) (w' : World) : Prop := ∃ r : Int, e = .returned (.int .i64 r) ∧ (0 ≤ r → n ≤ L) ∧ r ≤ L ∧ -1 ≤ r ∧ Below w.heap.size w w'



end
end Go.Proofs.Ytlcnjiephbhdaaa
