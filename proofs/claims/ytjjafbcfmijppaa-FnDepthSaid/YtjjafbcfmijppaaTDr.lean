/- Contracts of drawn triangles: l01Pick, l01Near, l09Draw, l09At, MakeTriangle. -/
import Derived.Test.YtjjafbcfmijppaaProg
import Derived.Test.YtjjafbcfmijppaaInts
import Derived.Test.YtjjafbcfmijppaaMem
import Derived.Test.YtjjafbcfmijppaaIntS
import Derived.Test.YtjjafbcfmijppaaCur
import Derived.Test.YtjjafbcfmijppaaVbox
import Derived.Test.YtjjafbcfmijppaaVec
import Derived.Test.YtjjafbcfmijppaaHeld
import Derived.Test.YtjjafbcfmijppaaArr
import Derived.Test.YtjjafbcfmijppaaTr
import Derived.Test.YtjjafbcfmijppaaFlat
import Derived.Test.YtjjafbcfmijppaaRowC
import Derived.Test.YtjjafbcfmijppaaPat
import Derived.Test.YtjjafbcfmijppaaCam
import Derived.Test.YtjjafbcfmijppaaCPrj
import Derived.WalkKit
import Derived.WalkSpells
import Derived.WalkLawsBesides
import Derived.Lib.Hide
import Derived.Deep.RegionHeld3
import Derived.Deep.QuietTactic
import Derived.BigQuiet
import Derived.Handy
import Derived.Deep.DeepCutAuto
namespace Go.Proofs.Ytjjafbcfmijppaa
open Go.RowKit

theorem Mbox.grownT {w w' : World} {k g : Nat} {vs : List Value} (h : Mbox w k vs) (hg : w.grownBy w' (some g)) (hk : k ≠ g) : Mbox w' k vs := h.keep fun hl => hg.block k hl (fun e => by injection e with e; exact hk e)
theorem Held.grow {w W W' : World} {g : Nat} {bs : List (Nat × List Value)} (h : Held w W bs) (hg : W.grownBy W' (some g)) (hk : w.heap.size ≤ g) (hne : ∀ p ∈ bs, p.1 ≠ g) : Held w W' bs :=
  ⟨h.1.grown hg h.1.size (fun k e => by injection e with e; omega), fun i k vs e => (h.2 i k vs e).grownT hg (hne (k, vs) (List.mem_of_getElem? e))⟩
/-- a call that draws, under way: the cursor, and the blocks that it has made and keeps -/
structure GD (B g : Nat) (w W : World) (bs : List (Nat × List Value)) : Prop where
  cur : Cur W B g
  gb : w.grownBy W (some g)
  glt : g < w.heap.size
  base : B ≤ w.heap.size
  boxes : ∀ (i : Nat) (k : Nat) (vs : List Value), bs[i]? = some (k, vs) → Mbox W k vs
  far : ∀ p ∈ bs, w.heap.size ≤ p.1
section
variable {B g : Nat} {w W W' : World} {bs : List (Nat × List Value)} {k : Nat} {vs : List Value}
theorem GD.start (h : Cur w B g) (hB : B ≤ w.heap.size) : GD B g w w [] := ⟨h, gb_refl _ _, h.lt, hB, fun i k vs e => by simp at e, fun p h => by cases h⟩
theorem GD.box (h : GD B g w W bs) (i : Nat) (e : bs[i]? = some (k, vs) := by rfl) : Mbox W k vs := h.boxes i k vs e
theorem GD.grow (h : GD B g w W bs) (hc : Cur W' B g) (hg : W.grownBy W' (some g)) : GD B g w W' bs :=
  ⟨hc, gb_trans h.gb hg, h.glt, h.base, fun i k vs e => (h.boxes i k vs e).grownT hg (by have := h.far (k, vs) (List.mem_of_getElem? e); have := h.glt; dsimp only at *; omega), h.far⟩
theorem gb_alloc0 (w : World) (o : Obj) (row : Option Nat) : w.grownBy (w.alloc o) row := gb_of_below ((Below.refl _ _).alloc (Nat.le_refl _) o)
theorem GD.alloc (h : GD B g w W bs) (o : Obj) : GD B g w (W.alloc o) bs :=
  ⟨h.cur.keep (gb_alloc0 W o none) (fun r e => by cases e) (by simp), gb_trans h.gb (gb_alloc0 W o _), h.glt, h.base, fun i k vs e => (h.boxes i k vs e).alloc o, h.far⟩
theorem GD.new (h : GD B g w W bs) (cs : Array Value) (t : TypeId) : GD B g w (W.alloc (.cells cs t)) ((W.heap.size, cs.toList) :: bs) := by
  refine ⟨(h.alloc _).cur, (h.alloc _).gb, h.glt, h.base, fun i k vs e => ?_, fun p hp => ?_⟩
  · match i, e with
    | 0, e =>
      simp only [List.getElem?_cons_zero, Option.some.injEq, Prod.mk.injEq] at e
      obtain ⟨rfl, rfl⟩ := e
      exact Mbox.new W cs t
    | i + 1, e => exact (h.boxes i k vs (by simpa using e)).alloc _
  · rcases List.mem_cons.1 hp with rfl | hp
    · exact h.gb.size
    · exact h.far p hp
theorem GD.drewN (h : GD B g w W bs) (n : Nat) : GD B g w (W.drewN n) bs :=
  ⟨h.cur.imp fun _ ⟨c, bs, i, x, q⟩ => ⟨c, bs, i, x, q.drewN n⟩, gb_drewN h.gb n, h.glt, h.base, fun i k vs e => (h.boxes i k vs e).drewN n, h.far⟩
theorem GD.drew (h : GD B g w W bs) : GD B g w W.drew bs := h.drewN 1
theorem GD.pick (h : GD B g w W bs) {cs : List (Nat × List Value)} (e : ∀ p ∈ cs, p ∈ bs) : GD B g w W cs := ⟨h.cur, h.gb, h.glt, h.base, fun i k vs hi => by
  obtain ⟨j, hj⟩ := List.mem_iff_getElem?.1 (e _ (List.mem_of_getElem? hi))
  exact h.boxes j k vs hj, fun p hp => h.far p (e p hp)⟩
theorem GD.put (h : GD B g w W ((k, vs) :: bs)) (hne : ∀ p ∈ bs, p.1 ≠ k) (i : Nat) (v : Value) : GD B g w (W.setCell ⟨k, i, none⟩ v) ((k, vs.set i v) :: bs) := by
  have hk := h.far (k, vs) (by simp)
  have hg := h.glt
  have hb := h.base
  have gs : ∀ row, row = some k → W.grownBy (W.setCell ⟨k, i, none⟩ v) row := fun row e => by rw [e]; exact gb_set (gb_refl _ _) _
  have gw : w.grownBy (W.setCell ⟨k, i, none⟩ v) (some g) :=
    ⟨h.gb.os, h.gb.tape, h.gb.output, by simpa using h.gb.size, fun j hj hr => (Below.heap_setCell W _ v j (fun e => by dsimp only at e hk; omega)).trans (h.gb.block j hj hr)⟩
  refine ⟨h.cur.keep (gs (some k) rfl) (fun r e => by injection e with e; dsimp only at hk; omega) (fun e => by injection e with e; dsimp only at hk; omega), gw, h.glt, h.base, fun j k' vs' e => ?_, fun p hp => ?_⟩
  · match j, e with
    | 0, e =>
      simp only [List.getElem?_cons_zero, Option.some.injEq, Prod.mk.injEq] at e
      obtain ⟨rfl, rfl⟩ := e
      exact (h.boxes 0 _ _ rfl).put i v
    | j + 1, e =>
      have e' : bs[j]? = some (k', vs') := by simpa using e
      exact (h.boxes (j + 1) k' vs' e).far (hne (k', vs') (List.mem_of_getElem? e')) v
  · rcases List.mem_cons.1 hp with rfl | hp
    · exact hk
    · exact h.far p (List.mem_cons_of_mem _ hp)
theorem GD.below (h : GD B g w W bs) : Below B w W := by
  have hg := h.cur.ge
  exact (Below.refl _ _).grown h.gb h.base (fun k e => by injection e with e; omega)
end
/-- what a call that draws some number leaves -/
def Near (B g : Nat) (w : World) (e : Ending) (w' : World) : Prop := ∃ x : Int, e = .returned (.int .i64 x) ∧ Cur w' B g ∧ w.grownBy w' (some g)
/-- what a call that draws a place leaves -/
def AtOut (B g : Nat) (w : World) (e : Ending) (w' : World) : Prop := ∃ x y : Int, e = .returned (.tuple #[.int .i64 x, .int .i64 y]) ∧ Cur w' B g ∧ w.grownBy w' (some g)
/-- a drawn corner -/
def cor (x y z : Int) : Prop := (0 ≤ x ∧ x ≤ 59) ∧ (0 ≤ y ∧ y ≤ 59) ∧ 50 ≤ z ∧ z ≤ 139
def TriDrawn (B g : Nat) (w : World) (E : Ending) (w' : World) : Prop := ∃ a0 a1 a2 a3 a4 a5 a6 a7 a8 : Int, (cor a0 a1 a2 ∧ cor a3 a4 a5 ∧ cor a6 a7 a8) ∧ E = .returned (mat a0 a1 a2 a3 a4 a5 a6 a7 a8) ∧ Cur w' B g ∧ w.grownBy w' (some g)
def TriMade (w : World) (E : Ending) (w' : World) : Prop := ∃ a0 a1 a2 a3 a4 a5 a6 a7 a8 p q x y : Int, (cor a0 a1 a2 ∧ cor a3 a4 a5 ∧ cor a6 a7 a8) ∧ E = .returned (.tuple #[mat a0 a1 a2 a3 a4 a5 a6 a7 a8, vec p q 0, vec x y 0]) ∧ Below w.heap.size w w'

set_option maxHeartbeats 4000000 in
theorem pick_any (B g k : Nat) (p0 p1 p2 p3 p4 : Int) (w : World) (hC : Cur w B g) (hk : k ≠ g) (hv : Mbox w k [.int .i64 p0, .int .i64 p1, .int .i64 p2, .int .i64 p3, .int .i64 p4]) :
    Calls Try.prog 63 #[.pointer (some ⟨g, 0, none⟩), .slice (some ⟨k, 0, none⟩) 5 5] w (Near B g w) := by
  go_enter Try.func63, Try.ntmps63
  go_wp2_with fail
  refine (below_any B g 5 _ hC (by omega) (by omega)).mono ?_
  rintro e w1 ⟨x, x0, x1, rfl, hC1, hg1⟩
  have hv := hv.grownT hg1 hk
  have c0 := hv.c 0
  have c1 := hv.c 1
  have c2 := hv.c 2
  have c3 := hv.c 3
  have c4 := hv.c 4
  have HC := Lib.hid (And.intro hC1 hg1)
  clear hC hC1 hg1 hv
  obtain rfl | rfl | rfl | rfl | rfl : x = 0 ∨ x = 1 ∨ x = 2 ∨ x = 3 ∨ x = 4 := by omega
  all_goals
    go_wp2_with fail
    go_ret
    exact ⟨_, rfl, HC.out.1, HC.out.2⟩

set_option maxRecDepth 100000 in
set_option maxHeartbeats 8000000 in
theorem near_any (B g : Nat) (w : World) (hC : Cur w B g) :
    Calls Try.prog 49 #[.pointer (some ⟨g, 0, none⟩), .int .i64 0, .int .i64 60] w (Near B g w) := by
  have hlt := hC.lt
  go_enter Try.func49, Try.ntmps49
  go_wp2_with fail
  refine (below_any B g 12 _ hC (by omega) (by omega)).mono ?_
  rintro e w1 ⟨x, x0, x1, rfl, hC1, hg1⟩
  have hs := hg1.size
  have HC := Lib.hid (And.intro hC1 hg1)
  clear hC hC1 hg1
  rcases (show x = 0 ∨ x = 1 ∨ x = 2 ∨ x = 3 ∨ x = 4 ∨ 5 ≤ x by omega) with rfl | rfl | rfl | rfl | rfl | h5
  · go_wp2_with fail
    go_ret
    exact ⟨_, rfl, HC.out.1, HC.out.2⟩
  · go_wp2_with fail
    go_ret
    exact ⟨_, rfl, HC.out.1, HC.out.2⟩
  · go_wp2_with fail
    go_ret
    exact ⟨_, rfl, HC.out.1, HC.out.2⟩
  · go_wp2_with fail
    go_ret
    exact ⟨_, rfl, HC.out.1, HC.out.2⟩
  · go_wp2_with fail
    refine (pick_any B g w1.heap.size 9223372036854775807 (-9223372036854775808) (-1) 0 1000 _ (HC.out.1.keep (gb_alloc0 _ _ none) (fun r e => by cases e) (by simp)) (by omega) (Mbox.new _ _ _)).mono ?_
    rintro e w2 ⟨y, rfl, hC2, hg2⟩
    have HC2 := Lib.hid (And.intro hC2 (gb_trans HC.out.2 (gb_trans (gb_alloc0 _ _ _) hg2)))
    clear hC2 hg2 HC
    go_wp2_with fail
    go_ret
    exact ⟨_, rfl, HC2.out.1, HC2.out.2⟩
  · have q0 : (x == 0) = false := by rw [beq_eq_false_iff_ne]; omega
    have q1 : (x == 1) = false := by rw [beq_eq_false_iff_ne]; omega
    have q2 : (x == 2) = false := by rw [beq_eq_false_iff_ne]; omega
    have q3 : (x == 3) = false := by rw [beq_eq_false_iff_ne]; omega
    have q4 : (x == 4) = false := by rw [beq_eq_false_iff_ne]; omega
    go_wp2_with fail
    refine (below_any B g 61 _ HC.out.1 (by omega) (by omega)).mono ?_
    rintro e w2 ⟨y, y0, y1, rfl, hC2, hg2⟩
    have HC2 := Lib.hid (And.intro hC2 (gb_trans HC.out.2 hg2))
    clear hC2 hg2 HC
    go_wp2_with fail
    go_ret
    exact ⟨_, rfl, HC2.out.1, HC2.out.2⟩

set_option maxRecDepth 100000 in
set_option maxHeartbeats 8000000 in
theorem draw9_any (B g : Nat) (w : World) (hC : Cur w B g) (hB : B ≤ w.heap.size) :
    Calls Try.prog 28 #[.pointer (some ⟨g, 0, none⟩)] w (TriDrawn B g w) := by
  have hlt := hC.lt
  have HT : GD B g w (((w.alloc (.cells #[.int .i64 0, .int .i64 0, .int .i64 0, .int .i64 0, .int .i64 0, .int .i64 0, .int .i64 0, .int .i64 0, .int .i64 0] 27))).alloc (.cells #[.int .i64 0, .int .i64 0, .int .i64 0, .int .i64 0, .int .i64 0, .int .i64 0, .int .i64 0, .int .i64 0, .int .i64 0] 27)) [(w.heap.size + 1, [.int .i64 0, .int .i64 0, .int .i64 0, .int .i64 0, .int .i64 0, .int .i64 0, .int .i64 0, .int .i64 0, .int .i64 0]), (w.heap.size, [.int .i64 0, .int .i64 0, .int .i64 0, .int .i64 0, .int .i64 0, .int .i64 0, .int .i64 0, .int .i64 0, .int .i64 0])] := by
    have h := ((GD.start hC hB).new #[.int .i64 0, .int .i64 0, .int .i64 0, .int .i64 0, .int .i64 0, .int .i64 0, .int .i64 0, .int .i64 0, .int .i64 0] 27).new #[.int .i64 0, .int .i64 0, .int .i64 0, .int .i64 0, .int .i64 0, .int .i64 0, .int .i64 0, .int .i64 0, .int .i64 0] 27
    simpa only [World.size_alloc] using h
  clear hC
  go_enter Try.func28, Try.ntmps28
  go_wp2
  go_loopw [6] (fun i wr => (i = .int .i64 0 ∧ GD B g w wr [(w.heap.size + 1, [.int .i64 0, .int .i64 0, .int .i64 0, .int .i64 0, .int .i64 0, .int .i64 0, .int .i64 0, .int .i64 0, .int .i64 0]), (w.heap.size, [.int .i64 0, .int .i64 0, .int .i64 0, .int .i64 0, .int .i64 0, .int .i64 0, .int .i64 0, .int .i64 0, .int .i64 0])]) ∨ (i = .int .i64 1 ∧ ∃ x0 x1 x2 : Int, cor x0 x1 x2 ∧ GD B g w wr [(w.heap.size + 1, [.int .i64 x0, .int .i64 x1, .int .i64 x2, .int .i64 0, .int .i64 0, .int .i64 0, .int .i64 0, .int .i64 0, .int .i64 0]), (w.heap.size, [.int .i64 0, .int .i64 0, .int .i64 0, .int .i64 0, .int .i64 0, .int .i64 0, .int .i64 0, .int .i64 0, .int .i64 0])]) ∨ (i = .int .i64 2 ∧ ∃ x0 x1 x2 x3 x4 x5 : Int, cor x0 x1 x2 ∧ cor x3 x4 x5 ∧ GD B g w wr [(w.heap.size + 1, [.int .i64 x0, .int .i64 x1, .int .i64 x2, .int .i64 x3, .int .i64 x4, .int .i64 x5, .int .i64 0, .int .i64 0, .int .i64 0]), (w.heap.size, [.int .i64 0, .int .i64 0, .int .i64 0, .int .i64 0, .int .i64 0, .int .i64 0, .int .i64 0, .int .i64 0, .int .i64 0])]) ∨ (i = .int .i64 3 ∧ ∃ x0 x1 x2 x3 x4 x5 x6 x7 x8 : Int, cor x0 x1 x2 ∧ cor x3 x4 x5 ∧ cor x6 x7 x8 ∧ GD B g w wr [(w.heap.size + 1, [.int .i64 x0, .int .i64 x1, .int .i64 x2, .int .i64 x3, .int .i64 x4, .int .i64 x5, .int .i64 x6, .int .i64 x7, .int .i64 x8]), (w.heap.size, [.int .i64 0, .int .i64 0, .int .i64 0, .int .i64 0, .int .i64 0, .int .i64 0, .int .i64 0, .int .i64 0, .int .i64 0])])) (fun i _ => 3 - (intOf i).toNat)
  case atStart => exact (Or.inl ⟨rfl, HT⟩)
  case round =>
    clear HT
    rcases hrel with ⟨rfl, HT⟩ | ⟨rfl, x0, x1, x2, h0_, HT⟩ | ⟨rfl, x0, x1, x2, x3, x4, x5, h0_, h1_, HT⟩ | ⟨rfl, x0, x1, x2, x3, x4, x5, x6, x7, x8, h0_, h1_, h2_, HT⟩
    · skip
      go_wp2_with fail
      refine (below_any B g 60 _ HT.cur (by omega) (by omega)).mono ?_
      rintro e w1 ⟨nx, nxl, nxh, rfl, hc, hg⟩
      have HT := HT.grow hc hg
      clear hc hg
      go_wp2_with fail
      refine (below_any B g 60 _ HT.cur (by omega) (by omega)).mono ?_
      rintro e w2 ⟨ny, nyl, nyh, rfl, hc, hg⟩
      have HT := HT.grow hc hg
      clear hc hg
      go_wp2_with fail
      refine (below_any B g 90 _ HT.cur (by omega) (by omega)).mono ?_
      rintro e w3 ⟨nz, nzl, nzh, rfl, hc, hg⟩
      have HT := HT.grow hc hg
      clear hc hg
      have HN := Lib.hid (show cor nx ny (50 + nz) from ⟨⟨by omega, by omega⟩, ⟨by omega, by omega⟩, by omega, by omega⟩)
      have n1 : IntKind.i64.wrap (50 + nz) = 50 + nz := wrap_in (by omega)
      have c0 := (HT.box 0).c 0
      have f0 := (HT.box 0).f 0
      have c1 := (HT.box 0).c 1
      have f1 := (HT.box 0).f 1
      have c2 := (HT.box 0).c 2
      have f2 := (HT.box 0).f 2
      have HH := Lib.hid (((HT.put (by simp) 0 (.int .i64 (nx))).put (by simp) 1 (.int .i64 (ny))).put (by simp) 2 (.int .i64 (50 + nz)))
      clear HT nxl nxh nyl nyh nzl nzh
      go_wp2_with fail
      go_roundw
      case rel => exact (Or.inr (Or.inl ⟨by go_num, nx, ny, 50 + nz, HN.out, HH.out⟩))
      case measure => simp [intOf]
    · skip
      go_wp2_with fail
      refine (below_any B g 60 _ HT.cur (by omega) (by omega)).mono ?_
      rintro e w1 ⟨nx, nxl, nxh, rfl, hc, hg⟩
      have HT := HT.grow hc hg
      clear hc hg
      go_wp2_with fail
      refine (below_any B g 60 _ HT.cur (by omega) (by omega)).mono ?_
      rintro e w2 ⟨ny, nyl, nyh, rfl, hc, hg⟩
      have HT := HT.grow hc hg
      clear hc hg
      go_wp2_with fail
      refine (below_any B g 90 _ HT.cur (by omega) (by omega)).mono ?_
      rintro e w3 ⟨nz, nzl, nzh, rfl, hc, hg⟩
      have HT := HT.grow hc hg
      clear hc hg
      have HN := Lib.hid (show cor nx ny (50 + nz) from ⟨⟨by omega, by omega⟩, ⟨by omega, by omega⟩, by omega, by omega⟩)
      have n1 : IntKind.i64.wrap (50 + nz) = 50 + nz := wrap_in (by omega)
      have c0 := (HT.box 0).c 3
      have f0 := (HT.box 0).f 3
      have c1 := (HT.box 0).c 4
      have f1 := (HT.box 0).f 4
      have c2 := (HT.box 0).c 5
      have f2 := (HT.box 0).f 5
      have HH := Lib.hid (((HT.put (by simp) 3 (.int .i64 (nx))).put (by simp) 4 (.int .i64 (ny))).put (by simp) 5 (.int .i64 (50 + nz)))
      clear HT nxl nxh nyl nyh nzl nzh
      go_wp2_with fail
      go_roundw
      case rel => exact (Or.inr (Or.inr (Or.inl ⟨by go_num, x0, x1, x2, nx, ny, 50 + nz, h0_, HN.out, HH.out⟩)))
      case measure => simp [intOf]
    · skip
      go_wp2_with fail
      refine (below_any B g 60 _ HT.cur (by omega) (by omega)).mono ?_
      rintro e w1 ⟨nx, nxl, nxh, rfl, hc, hg⟩
      have HT := HT.grow hc hg
      clear hc hg
      go_wp2_with fail
      refine (below_any B g 60 _ HT.cur (by omega) (by omega)).mono ?_
      rintro e w2 ⟨ny, nyl, nyh, rfl, hc, hg⟩
      have HT := HT.grow hc hg
      clear hc hg
      go_wp2_with fail
      refine (below_any B g 90 _ HT.cur (by omega) (by omega)).mono ?_
      rintro e w3 ⟨nz, nzl, nzh, rfl, hc, hg⟩
      have HT := HT.grow hc hg
      clear hc hg
      have HN := Lib.hid (show cor nx ny (50 + nz) from ⟨⟨by omega, by omega⟩, ⟨by omega, by omega⟩, by omega, by omega⟩)
      have n1 : IntKind.i64.wrap (50 + nz) = 50 + nz := wrap_in (by omega)
      have c0 := (HT.box 0).c 6
      have f0 := (HT.box 0).f 6
      have c1 := (HT.box 0).c 7
      have f1 := (HT.box 0).f 7
      have c2 := (HT.box 0).c 8
      have f2 := (HT.box 0).f 8
      have HH := Lib.hid (((HT.put (by simp) 6 (.int .i64 (nx))).put (by simp) 7 (.int .i64 (ny))).put (by simp) 8 (.int .i64 (50 + nz)))
      clear HT nxl nxh nyl nyh nzl nzh
      go_wp2_with fail
      go_roundw
      case rel => exact (Or.inr (Or.inr (Or.inr ⟨by go_num, x0, x1, x2, x3, x4, x5, nx, ny, 50 + nz, h0_, h1_, HN.out, HH.out⟩)))
      case measure => simp [intOf]
    · skip
      have c0 := (HT.box 0).c 0
      have c1 := (HT.box 0).c 1
      have c2 := (HT.box 0).c 2
      have c3 := (HT.box 0).c 3
      have c4 := (HT.box 0).c 4
      have c5 := (HT.box 0).c 5
      have c6 := (HT.box 0).c 6
      have c7 := (HT.box 0).c 7
      have c8 := (HT.box 0).c 8
      have r0 := (HT.box 1).c 0
      have r1 := (HT.box 1).c 1
      have r2 := (HT.box 1).c 2
      have r3 := (HT.box 1).c 3
      have r4 := (HT.box 1).c 4
      have r5 := (HT.box 1).c 5
      have r6 := (HT.box 1).c 6
      have r7 := (HT.box 1).c 7
      have r8 := (HT.box 1).c 8
      have g0 := (HT.box 1).f 0
      have g1 := (HT.box 1).f 1
      have g2 := (HT.box 1).f 2
      have g3 := (HT.box 1).f 3
      have g4 := (HT.box 1).f 4
      have g5 := (HT.box 1).f 5
      have g6 := (HT.box 1).f 6
      have g7 := (HT.box 1).f 7
      have g8 := (HT.box 1).f 8
      have HP := (HT.pick (cs := [(w.heap.size, [.int .i64 0, .int .i64 0, .int .i64 0, .int .i64 0, .int .i64 0, .int .i64 0, .int .i64 0, .int .i64 0, .int .i64 0])]) (by simp))
      have HF : ∀ y0 y1 y2 y3 y4 y5 y6 y7 y8 : Value, Cur (((((((((wr.setCell ⟨w.heap.size, 0, none⟩ y0).setCell ⟨w.heap.size, 1, none⟩ y1).setCell ⟨w.heap.size, 2, none⟩ y2).setCell ⟨w.heap.size, 3, none⟩ y3).setCell ⟨w.heap.size, 4, none⟩ y4).setCell ⟨w.heap.size, 5, none⟩ y5).setCell ⟨w.heap.size, 6, none⟩ y6).setCell ⟨w.heap.size, 7, none⟩ y7).setCell ⟨w.heap.size, 8, none⟩ y8) B g ∧ w.grownBy (((((((((wr.setCell ⟨w.heap.size, 0, none⟩ y0).setCell ⟨w.heap.size, 1, none⟩ y1).setCell ⟨w.heap.size, 2, none⟩ y2).setCell ⟨w.heap.size, 3, none⟩ y3).setCell ⟨w.heap.size, 4, none⟩ y4).setCell ⟨w.heap.size, 5, none⟩ y5).setCell ⟨w.heap.size, 6, none⟩ y6).setCell ⟨w.heap.size, 7, none⟩ y7).setCell ⟨w.heap.size, 8, none⟩ y8) (some g) := fun y0 y1 y2 y3 y4 y5 y6 y7 y8 =>
        have h := (((((((((HP.put (by simp) 0 y0).put (by simp) 1 y1).put (by simp) 2 y2).put (by simp) 3 y3).put (by simp) 4 y4).put (by simp) 5 y5).put (by simp) 6 y6).put (by simp) 7 y7).put (by simp) 8 y8)
        ⟨h.cur, h.gb⟩
      have HF := Lib.hid HF
      have HN := Lib.hid (And.intro h0_ (And.intro h1_ h2_))
      clear HT HP h0_ h1_ h2_
      go_wp2_with fail
      exact bodyPost_ret (v := mat x0 x1 x2 x3 x4 x5 x6 x7 x8) (by simp [results, Try.results28, go_sem, r0, r1, r2, r3, r4, r5, r6, r7, r8]) rfl ⟨x0, x1, x2, x3, x4, x5, x6, x7, x8, HN.out, rfl, (HF.out _ _ _ _ _ _ _ _ _).1, (HF.out _ _ _ _ _ _ _ _ _).2⟩
end Go.Proofs.Ytjjafbcfmijppaa
