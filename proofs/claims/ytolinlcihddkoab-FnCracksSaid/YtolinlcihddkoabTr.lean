/- Words for transforms: values, validity, stores into blocks of nine and of twelve cells. -/
import Derived.Test.YtolinlcihddkoabProg
import Derived.Test.YtolinlcihddkoabInts
import Derived.Test.YtolinlcihddkoabVbox
import Derived.Test.YtolinlcihddkoabVec
import Derived.Test.YtolinlcihddkoabHeld
import Derived.Test.YtolinlcihddkoabArr
import Derived.WalkKit
import Derived.WalkSpells
import Derived.WalkLawsBesides
import Derived.Lib.Hide
import Derived.Deep.RegionHeld3
import Derived.Deep.QuietTactic
import Derived.BigQuiet
import Derived.Handy
import Derived.Deep.DeepCutAuto
namespace Go.Proofs.Ytolinlcihddkoab
open Go.RowKit

abbrev mat (a0 a1 a2 a3 a4 a5 a6 a7 a8 : Int) : Value := .agg #[.int .i64 a0, .int .i64 a1, .int .i64 a2, .int .i64 a3, .int .i64 a4, .int .i64 a5, .int .i64 a6, .int .i64 a7, .int .i64 a8]
abbrev tr (a0 a1 a2 a3 a4 a5 a6 a7 a8 x y z : Int) : Value := .agg #[.int .i64 a0, .int .i64 a1, .int .i64 a2, .int .i64 a3, .int .i64 a4, .int .i64 a5, .int .i64 a6, .int .i64 a7, .int .i64 a8, .int .i64 x, .int .i64 y, .int .i64 z]
def MatOut (a0 a1 a2 a3 a4 a5 a6 a7 a8 : Int) (w : World) (e : Ending) (w' : World) : Prop := e = .returned (mat a0 a1 a2 a3 a4 a5 a6 a7 a8) ∧ Below w.heap.size w w'
def TrOut (a0 a1 a2 a3 a4 a5 a6 a7 a8 x y z : Int) (w : World) (e : Ending) (w' : World) : Prop := e = .returned (tr a0 a1 a2 a3 a4 a5 a6 a7 a8 x y z) ∧ Below w.heap.size w w'
def BOut (b : Bool) (w : World) (x : Ending) (w' : World) : Prop := x = .returned (.bool b) ∧ Below w.heap.size w w'
theorem retB {a b : Bool} (h : a = b) : Ending.returned (.bool a) = .returned (.bool b) := by rw [h]
/-- a coefficient, clamped; whether it is in range; whether all are; whether a transform is valid -/
def c64 (n : Int) : Int := clampP n (-64) 64
def in64 (n : Int) : Bool := decide (-64 ≤ n ∧ n ≤ 64)
def okM (l : List Int) : Bool := l.all in64
def okT (l : List Int) (x y z : Int) : Bool := okM l && okB x y z
theorem in64_iff (n : Int) : in64 n = true ↔ -64 ≤ n ∧ n ≤ 64 := by simp [in64]
theorem c64_eq (n : Int) : (n == c64 n) = in64 n := by
  rw [Bool.eq_iff_iff, beq_iff_eq, in64_iff]
  unfold c64 clampP
  split <;> (try split) <;> omega
theorem okM_eq : ∀ l : List Int, (l == l.map c64) = okM l
  | [] => rfl
  | a :: l => by
    have := okM_eq l
    rw [List.map_cons, List.cons_beq_cons, this, c64_eq]; rfl
theorem okM_mem {l : List Int} (h : okM l = true) {n : Int} (hn : n ∈ l) : -64 ≤ n ∧ n ≤ 64 := (in64_iff n).1 (List.all_eq_true.1 h n hn)
theorem okT_no1 {l : List Int} {x y z : Int} (h : okM l = false) : false = okT l x y z := by unfold okT; rw [h]; rfl
theorem okT_yes {l : List Int} {x y z : Int} (h : okM l = true) : okB x y z = okT l x y z := by unfold okT; rw [h]; rfl
theorem okT_m {l : List Int} {x y z : Int} (h : okT l x y z = true) : okM l = true := by unfold okT at h; rw [Bool.and_eq_true] at h; exact h.1
theorem okT_b {l : List Int} {x y z : Int} (h : okT l x y z = true) : okB x y z = true := by unfold okT at h; rw [Bool.and_eq_true] at h; exact h.2
theorem okM_take {l : List Int} {k : Nat} {v : Int} (h : okM (l.take k) = true) (hv : l[k]? = some v) (h1 : -64 ≤ v) (h2 : v ≤ 64) : okM (l.take (k + 1)) = true := by
  unfold okM at *
  rw [List.take_add_one, hv, List.all_append, h]
  simp [in64]; omega
theorem okM_bad {l : List Int} {k : Nat} {v : Int} (hv : l[k]? = some v) (h : ¬ (-64 ≤ v ∧ v ≤ 64)) : okM l = false := by
  rw [Bool.eq_false_iff]
  exact fun e => h (okM_mem e (List.mem_of_getElem? hv))
theorem okM_diag (i : Int) : okM [i, 0, 0, 0, i, 0, 0, 0, i] = in64 i := by
  unfold okM
  simp only [List.all_cons, List.all_nil, show in64 0 = true from rfl, Bool.true_and, Bool.and_true]
  cases in64 i <;> rfl
theorem okB_zero : okB 0 0 0 = true := by rfl
theorem okT_diag (i x y z : Int) : okT [i, 0, 0, 0, i, 0, 0, 0, i] x y z = (in64 i && okB x y z) := by unfold okT; rw [okM_diag]
theorem Held.put9 {w W : World} {bs : List (Nat × List Value)} {k : Nat} {p0 p1 p2 p3 p4 p5 p6 p7 p8 : Value} (h : Held w W ((k, [p0, p1, p2, p3, p4, p5, p6, p7, p8]) :: bs)) (hg : w.heap.size ≤ k) (hne : ∀ p ∈ bs, p.1 ≠ k) (v0 v1 v2 v3 v4 v5 v6 v7 v8 : Value) : Held w (((((((((W.setCell ⟨k, 0, none⟩ v0).setCell ⟨k, 1, none⟩ v1).setCell ⟨k, 2, none⟩ v2).setCell ⟨k, 3, none⟩ v3).setCell ⟨k, 4, none⟩ v4).setCell ⟨k, 5, none⟩ v5).setCell ⟨k, 6, none⟩ v6).setCell ⟨k, 7, none⟩ v7).setCell ⟨k, 8, none⟩ v8) ((k, [v0, v1, v2, v3, v4, v5, v6, v7, v8]) :: bs) :=
  (((((((((h).put hg hne 0 v0).put hg hne 1 v1).put hg hne 2 v2).put hg hne 3 v3).put hg hne 4 v4).put hg hne 5 v5).put hg hne 6 v6).put hg hne 7 v7).put hg hne 8 v8
theorem Mbox.put9 {W : World} {k : Nat} {p0 p1 p2 p3 p4 p5 p6 p7 p8 : Value} (h : Mbox W k [p0, p1, p2, p3, p4, p5, p6, p7, p8]) (v0 v1 v2 v3 v4 v5 v6 v7 v8 : Value) : Mbox (((((((((W.setCell ⟨k, 0, none⟩ v0).setCell ⟨k, 1, none⟩ v1).setCell ⟨k, 2, none⟩ v2).setCell ⟨k, 3, none⟩ v3).setCell ⟨k, 4, none⟩ v4).setCell ⟨k, 5, none⟩ v5).setCell ⟨k, 6, none⟩ v6).setCell ⟨k, 7, none⟩ v7).setCell ⟨k, 8, none⟩ v8) k [v0, v1, v2, v3, v4, v5, v6, v7, v8] :=
  (((((((((h).put 0 v0).put 1 v1).put 2 v2).put 3 v3).put 4 v4).put 5 v5).put 6 v6).put 7 v7).put 8 v8
theorem Held.put12 {w W : World} {bs : List (Nat × List Value)} {k : Nat} {p0 p1 p2 p3 p4 p5 p6 p7 p8 p9 p10 p11 : Value} (h : Held w W ((k, [p0, p1, p2, p3, p4, p5, p6, p7, p8, p9, p10, p11]) :: bs)) (hg : w.heap.size ≤ k) (hne : ∀ p ∈ bs, p.1 ≠ k) (v0 v1 v2 v3 v4 v5 v6 v7 v8 v9 v10 v11 : Value) : Held w ((((((((((((W.setCell ⟨k, 0, none⟩ v0).setCell ⟨k, 1, none⟩ v1).setCell ⟨k, 2, none⟩ v2).setCell ⟨k, 3, none⟩ v3).setCell ⟨k, 4, none⟩ v4).setCell ⟨k, 5, none⟩ v5).setCell ⟨k, 6, none⟩ v6).setCell ⟨k, 7, none⟩ v7).setCell ⟨k, 8, none⟩ v8).setCell ⟨k, 9, none⟩ v9).setCell ⟨k, 10, none⟩ v10).setCell ⟨k, 11, none⟩ v11) ((k, [v0, v1, v2, v3, v4, v5, v6, v7, v8, v9, v10, v11]) :: bs) :=
  ((((((((((((h).put hg hne 0 v0).put hg hne 1 v1).put hg hne 2 v2).put hg hne 3 v3).put hg hne 4 v4).put hg hne 5 v5).put hg hne 6 v6).put hg hne 7 v7).put hg hne 8 v8).put hg hne 9 v9).put hg hne 10 v10).put hg hne 11 v11
theorem Mbox.put12 {W : World} {k : Nat} {p0 p1 p2 p3 p4 p5 p6 p7 p8 p9 p10 p11 : Value} (h : Mbox W k [p0, p1, p2, p3, p4, p5, p6, p7, p8, p9, p10, p11]) (v0 v1 v2 v3 v4 v5 v6 v7 v8 v9 v10 v11 : Value) : Mbox ((((((((((((W.setCell ⟨k, 0, none⟩ v0).setCell ⟨k, 1, none⟩ v1).setCell ⟨k, 2, none⟩ v2).setCell ⟨k, 3, none⟩ v3).setCell ⟨k, 4, none⟩ v4).setCell ⟨k, 5, none⟩ v5).setCell ⟨k, 6, none⟩ v6).setCell ⟨k, 7, none⟩ v7).setCell ⟨k, 8, none⟩ v8).setCell ⟨k, 9, none⟩ v9).setCell ⟨k, 10, none⟩ v10).setCell ⟨k, 11, none⟩ v11) k [v0, v1, v2, v3, v4, v5, v6, v7, v8, v9, v10, v11] :=
  ((((((((((((h).put 0 v0).put 1 v1).put 2 v2).put 3 v3).put 4 v4).put 5 v5).put 6 v6).put 7 v7).put 8 v8).put 9 v9).put 10 v10).put 11 v11
theorem Held.putM {w W : World} {bs : List (Nat × List Value)} {k : Nat} {p0 p1 p2 p3 p4 p5 p6 p7 p8 p9 p10 p11 : Value} (h : Held w W ((k, [p0, p1, p2, p3, p4, p5, p6, p7, p8, p9, p10, p11]) :: bs)) (hg : w.heap.size ≤ k) (hne : ∀ p ∈ bs, p.1 ≠ k) (v0 v1 v2 v3 v4 v5 v6 v7 v8 : Value) : Held w (((((((((W.setCell ⟨k, 0, none⟩ v0).setCell ⟨k, 1, none⟩ v1).setCell ⟨k, 2, none⟩ v2).setCell ⟨k, 3, none⟩ v3).setCell ⟨k, 4, none⟩ v4).setCell ⟨k, 5, none⟩ v5).setCell ⟨k, 6, none⟩ v6).setCell ⟨k, 7, none⟩ v7).setCell ⟨k, 8, none⟩ v8) ((k, [v0, v1, v2, v3, v4, v5, v6, v7, v8, p9, p10, p11]) :: bs) :=
  (((((((((h).put hg hne 0 v0).put hg hne 1 v1).put hg hne 2 v2).put hg hne 3 v3).put hg hne 4 v4).put hg hne 5 v5).put hg hne 6 v6).put hg hne 7 v7).put hg hne 8 v8
theorem Mbox.putM {W : World} {k : Nat} {p0 p1 p2 p3 p4 p5 p6 p7 p8 p9 p10 p11 : Value} (h : Mbox W k [p0, p1, p2, p3, p4, p5, p6, p7, p8, p9, p10, p11]) (v0 v1 v2 v3 v4 v5 v6 v7 v8 : Value) : Mbox (((((((((W.setCell ⟨k, 0, none⟩ v0).setCell ⟨k, 1, none⟩ v1).setCell ⟨k, 2, none⟩ v2).setCell ⟨k, 3, none⟩ v3).setCell ⟨k, 4, none⟩ v4).setCell ⟨k, 5, none⟩ v5).setCell ⟨k, 6, none⟩ v6).setCell ⟨k, 7, none⟩ v7).setCell ⟨k, 8, none⟩ v8) k [v0, v1, v2, v3, v4, v5, v6, v7, v8, p9, p10, p11] :=
  (((((((((h).put 0 v0).put 1 v1).put 2 v2).put 3 v3).put 4 v4).put 5 v5).put 6 v6).put 7 v7).put 8 v8
theorem Held.putO {w W : World} {bs : List (Nat × List Value)} {k : Nat} {p0 p1 p2 p3 p4 p5 p6 p7 p8 p9 p10 p11 : Value} (h : Held w W ((k, [p0, p1, p2, p3, p4, p5, p6, p7, p8, p9, p10, p11]) :: bs)) (hg : w.heap.size ≤ k) (hne : ∀ p ∈ bs, p.1 ≠ k) (v0 v1 v2 : Value) : Held w (((W.setCell ⟨k, 9, none⟩ v0).setCell ⟨k, 10, none⟩ v1).setCell ⟨k, 11, none⟩ v2) ((k, [p0, p1, p2, p3, p4, p5, p6, p7, p8, v0, v1, v2]) :: bs) :=
  (((h).put hg hne 9 v0).put hg hne 10 v1).put hg hne 11 v2
theorem Mbox.putO {W : World} {k : Nat} {p0 p1 p2 p3 p4 p5 p6 p7 p8 p9 p10 p11 : Value} (h : Mbox W k [p0, p1, p2, p3, p4, p5, p6, p7, p8, p9, p10, p11]) (v0 v1 v2 : Value) : Mbox (((W.setCell ⟨k, 9, none⟩ v0).setCell ⟨k, 10, none⟩ v1).setCell ⟨k, 11, none⟩ v2) k [p0, p1, p2, p3, p4, p5, p6, p7, p8, v0, v1, v2] :=
  (((h).put 9 v0).put 10 v1).put 11 v2
theorem Held.far9 {w W : World} {bs : List (Nat × List Value)} {k o0 o1 o2 o3 o4 o5 o6 o7 o8 : Nat} (h : Held w W bs) (hg : w.heap.size ≤ k) (hne : ∀ p ∈ bs, p.1 ≠ k) (v0 v1 v2 v3 v4 v5 v6 v7 v8 : Value) : Held w (((((((((W.setCell ⟨k, o0, none⟩ v0).setCell ⟨k, o1, none⟩ v1).setCell ⟨k, o2, none⟩ v2).setCell ⟨k, o3, none⟩ v3).setCell ⟨k, o4, none⟩ v4).setCell ⟨k, o5, none⟩ v5).setCell ⟨k, o6, none⟩ v6).setCell ⟨k, o7, none⟩ v7).setCell ⟨k, o8, none⟩ v8) bs :=
  (((((((((h).far hg hne v0).far hg hne v1).far hg hne v2).far hg hne v3).far hg hne v4).far hg hne v5).far hg hne v6).far hg hne v7).far hg hne v8
theorem bset_far9 {B k o0 o1 o2 o3 o4 o5 o6 o7 o8 : Nat} {a W : World} {v0 v1 v2 v3 v4 v5 v6 v7 v8 : Value} (h : Below B a W) (hk : B ≤ k) : Below B a (((((((((W.setCell ⟨k, o0, none⟩ v0).setCell ⟨k, o1, none⟩ v1).setCell ⟨k, o2, none⟩ v2).setCell ⟨k, o3, none⟩ v3).setCell ⟨k, o4, none⟩ v4).setCell ⟨k, o5, none⟩ v5).setCell ⟨k, o6, none⟩ v6).setCell ⟨k, o7, none⟩ v7).setCell ⟨k, o8, none⟩ v8) :=
  (((((((((h).setCell (p := ⟨k, o0, none⟩) hk v0).setCell (p := ⟨k, o1, none⟩) hk v1).setCell (p := ⟨k, o2, none⟩) hk v2).setCell (p := ⟨k, o3, none⟩) hk v3).setCell (p := ⟨k, o4, none⟩) hk v4).setCell (p := ⟨k, o5, none⟩) hk v5).setCell (p := ⟨k, o6, none⟩) hk v6).setCell (p := ⟨k, o7, none⟩) hk v7).setCell (p := ⟨k, o8, none⟩) hk v8
theorem Held.far12 {w W : World} {bs : List (Nat × List Value)} {k o0 o1 o2 o3 o4 o5 o6 o7 o8 o9 o10 o11 : Nat} (h : Held w W bs) (hg : w.heap.size ≤ k) (hne : ∀ p ∈ bs, p.1 ≠ k) (v0 v1 v2 v3 v4 v5 v6 v7 v8 v9 v10 v11 : Value) : Held w ((((((((((((W.setCell ⟨k, o0, none⟩ v0).setCell ⟨k, o1, none⟩ v1).setCell ⟨k, o2, none⟩ v2).setCell ⟨k, o3, none⟩ v3).setCell ⟨k, o4, none⟩ v4).setCell ⟨k, o5, none⟩ v5).setCell ⟨k, o6, none⟩ v6).setCell ⟨k, o7, none⟩ v7).setCell ⟨k, o8, none⟩ v8).setCell ⟨k, o9, none⟩ v9).setCell ⟨k, o10, none⟩ v10).setCell ⟨k, o11, none⟩ v11) bs :=
  ((((((((((((h).far hg hne v0).far hg hne v1).far hg hne v2).far hg hne v3).far hg hne v4).far hg hne v5).far hg hne v6).far hg hne v7).far hg hne v8).far hg hne v9).far hg hne v10).far hg hne v11
theorem bset_far12 {B k o0 o1 o2 o3 o4 o5 o6 o7 o8 o9 o10 o11 : Nat} {a W : World} {v0 v1 v2 v3 v4 v5 v6 v7 v8 v9 v10 v11 : Value} (h : Below B a W) (hk : B ≤ k) : Below B a ((((((((((((W.setCell ⟨k, o0, none⟩ v0).setCell ⟨k, o1, none⟩ v1).setCell ⟨k, o2, none⟩ v2).setCell ⟨k, o3, none⟩ v3).setCell ⟨k, o4, none⟩ v4).setCell ⟨k, o5, none⟩ v5).setCell ⟨k, o6, none⟩ v6).setCell ⟨k, o7, none⟩ v7).setCell ⟨k, o8, none⟩ v8).setCell ⟨k, o9, none⟩ v9).setCell ⟨k, o10, none⟩ v10).setCell ⟨k, o11, none⟩ v11) :=
  ((((((((((((h).setCell (p := ⟨k, o0, none⟩) hk v0).setCell (p := ⟨k, o1, none⟩) hk v1).setCell (p := ⟨k, o2, none⟩) hk v2).setCell (p := ⟨k, o3, none⟩) hk v3).setCell (p := ⟨k, o4, none⟩) hk v4).setCell (p := ⟨k, o5, none⟩) hk v5).setCell (p := ⟨k, o6, none⟩) hk v6).setCell (p := ⟨k, o7, none⟩) hk v7).setCell (p := ⟨k, o8, none⟩) hk v8).setCell (p := ⟨k, o9, none⟩) hk v9).setCell (p := ⟨k, o10, none⟩) hk v10).setCell (p := ⟨k, o11, none⟩) hk v11
theorem Mbox.new9' (w : World) (v0 v1 v2 v3 v4 v5 v6 v7 v8 : Value) (t : TypeId) : Mbox (w.alloc (.cells #[v0, v1, v2, v3, v4, v5, v6, v7, v8] t)) w.heap.size [v0, v1, v2, v3, v4, v5, v6, v7, v8] := Mbox.new w #[v0, v1, v2, v3, v4, v5, v6, v7, v8] t
theorem Mbox.new12' (w : World) (v0 v1 v2 v3 v4 v5 v6 v7 v8 v9 v10 v11 : Value) (t : TypeId) : Mbox (w.alloc (.cells #[v0, v1, v2, v3, v4, v5, v6, v7, v8, v9, v10, v11] t)) w.heap.size [v0, v1, v2, v3, v4, v5, v6, v7, v8, v9, v10, v11] := Mbox.new w #[v0, v1, v2, v3, v4, v5, v6, v7, v8, v9, v10, v11] t
theorem Mbox.rangeP {w : World} {k : Nat} {cs bs : List Value} (h : Mbox w k (cs ++ bs)) : w.rangeAt k 0 cs := fun j v hv => by
  rw [Nat.zero_add]
  exact (h j v (by rw [List.getElem?_append_left (List.getElem?_eq_some_iff.1 hv).1]; exact hv)).1
theorem Mbox.range9 {w : World} {k : Nat} {p0 p1 p2 p3 p4 p5 p6 p7 p8 p9 p10 p11 : Value} (h : Mbox w k [p0, p1, p2, p3, p4, p5, p6, p7, p8, p9, p10, p11]) : w.rangeAt k 0 [p0, p1, p2, p3, p4, p5, p6, p7, p8] := Mbox.rangeP (bs := [p9, p10, p11]) h
end Go.Proofs.Ytolinlcihddkoab
