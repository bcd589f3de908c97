/- Calls that draw, under way. -/
import Derived.Test.YtaelhbbfddcabaaProg
import Derived.Test.YtaelhbbfddcabaaInts
import Derived.Test.YtaelhbbfddcabaaMem
import Derived.Test.YtaelhbbfddcabaaIntS
import Derived.Test.YtaelhbbfddcabaaCur
import Derived.Test.YtaelhbbfddcabaaVbox
import Derived.Test.YtaelhbbfddcabaaHeld
import Derived.WalkKit
import Derived.WalkSpells
import Derived.WalkLawsBesides
import Derived.Lib.Hide
import Derived.Deep.RegionHeld3
import Derived.Deep.QuietTactic
import Derived.BigQuiet
import Derived.Handy
import Derived.Deep.DeepCutAuto
import Derived.OwnWalk
namespace Go.Proofs.Ytaelhbbfddcabaa
open Go.RowKit
theorem Mbox.grownT {w w' : World} {k g : Nat} {vs : List Value} (h : Mbox w k vs) (hg : w.grownBy w' (some g)) (hk : k ≠ g) : Mbox w' k vs := h.keep fun hl => hg.block k hl (fun e => by injection e with e; exact hk e)
theorem Held.grow {w W W' : World} {g : Nat} {bs : List (Nat × List Value)} (h : Held w W bs) (hg : W.grownBy W' (some g)) (hk : w.heap.size ≤ g) (hne : ∀ p ∈ bs, p.1 ≠ g) : Held w W' bs :=
  ⟨h.1.grown hg h.1.size (fun k e => by injection e with e; omega), fun i k vs e => (h.2 i k vs e).grownT hg (hne (k, vs) (List.mem_of_getElem? e))⟩
/-- a call that draws, under way: the cursor, and the blocks that it has made and keeps -/
structure GD (B g : Nat) (w W : World) (bs : List (Nat × List Value)) : Prop where
  cur : Cur W B g
  gb : w.grownBy W (some g)
  glt : g < w.heap.size
  base : B ≤ w.heap.size
  boxes : ∀ (i : Nat) (k : Nat) (vs : List Value), bs[i]? = some (k, vs) → Mbox W k vs
  far : ∀ p ∈ bs, w.heap.size ≤ p.1
section
variable {B g : Nat} {w W W' : World} {bs : List (Nat × List Value)} {k : Nat} {vs : List Value}
theorem GD.start (h : Cur w B g) (hB : B ≤ w.heap.size) : GD B g w w [] := ⟨h, gb_refl _ _, h.lt, hB, fun i k vs e => by simp at e, fun p h => by cases h⟩
theorem GD.box (h : GD B g w W bs) (i : Nat) (e : bs[i]? = some (k, vs) := by rfl) : Mbox W k vs := h.boxes i k vs e
theorem GD.grow (h : GD B g w W bs) (hc : Cur W' B g) (hg : W.grownBy W' (some g)) : GD B g w W' bs :=
  ⟨hc, gb_trans h.gb hg, h.glt, h.base, fun i k vs e => (h.boxes i k vs e).grownT hg (by have := h.far (k, vs) (List.mem_of_getElem? e); have := h.glt; dsimp only at *; omega), h.far⟩
theorem gb_alloc0 (w : World) (o : Obj) (row : Option Nat) : w.grownBy (w.alloc o) row := gb_of_below ((Below.refl _ _).alloc (Nat.le_refl _) o)
theorem GD.alloc (h : GD B g w W bs) (o : Obj) : GD B g w (W.alloc o) bs :=
  ⟨h.cur.keep (gb_alloc0 W o none) (fun r e => by cases e) (by simp), gb_trans h.gb (gb_alloc0 W o _), h.glt, h.base, fun i k vs e => (h.boxes i k vs e).alloc o, h.far⟩
theorem GD.new (h : GD B g w W bs) (cs : Array Value) (t : TypeId) : GD B g w (W.alloc (.cells cs t)) ((W.heap.size, cs.toList) :: bs) := by
  refine ⟨(h.alloc _).cur, (h.alloc _).gb, h.glt, h.base, fun i k vs e => ?_, fun p hp => ?_⟩
  · match i, e with
    | 0, e =>
      simp only [List.getElem?_cons_zero, Option.some.injEq, Prod.mk.injEq] at e
      obtain ⟨rfl, rfl⟩ := e
      exact Mbox.new W cs t
    | i + 1, e => exact (h.boxes i k vs (by simpa using e)).alloc _
  · rcases List.mem_cons.1 hp with rfl | hp
    · exact h.gb.size
    · exact h.far p hp
theorem GD.drewN (h : GD B g w W bs) (n : Nat) : GD B g w (W.drewN n) bs :=
  ⟨h.cur.imp fun _ ⟨c, bs, i, x, q⟩ => ⟨c, bs, i, x, q.drewN n⟩, gb_drewN h.gb n, h.glt, h.base, fun i k vs e => (h.boxes i k vs e).drewN n, h.far⟩
theorem GD.drew (h : GD B g w W bs) : GD B g w W.drew bs := h.drewN 1
theorem GD.pick (h : GD B g w W bs) {cs : List (Nat × List Value)} (e : ∀ p ∈ cs, p ∈ bs) : GD B g w W cs := ⟨h.cur, h.gb, h.glt, h.base, fun i k vs hi => by
  obtain ⟨j, hj⟩ := List.mem_iff_getElem?.1 (e _ (List.mem_of_getElem? hi))
  exact h.boxes j k vs hj, fun p hp => h.far p (e p hp)⟩
theorem GD.put (h : GD B g w W ((k, vs) :: bs)) (hne : ∀ p ∈ bs, p.1 ≠ k) (i : Nat) (v : Value) : GD B g w (W.setCell ⟨k, i, none⟩ v) ((k, vs.set i v) :: bs) := by
  have hk := h.far (k, vs) (by simp)
  have hg := h.glt
  have hb := h.base
  have gs : ∀ row, row = some k → W.grownBy (W.setCell ⟨k, i, none⟩ v) row := fun row e => by rw [e]; exact gb_set (gb_refl _ _) _
  have gw : w.grownBy (W.setCell ⟨k, i, none⟩ v) (some g) :=
    ⟨h.gb.os, h.gb.tape, h.gb.output, by simpa using h.gb.size, fun j hj hr => (Below.heap_setCell W _ v j (fun e => by dsimp only at e hk; omega)).trans (h.gb.block j hj hr)⟩
  refine ⟨h.cur.keep (gs (some k) rfl) (fun r e => by injection e with e; dsimp only at hk; omega) (fun e => by injection e with e; dsimp only at hk; omega), gw, h.glt, h.base, fun j k' vs' e => ?_, fun p hp => ?_⟩
  · match j, e with
    | 0, e =>
      simp only [List.getElem?_cons_zero, Option.some.injEq, Prod.mk.injEq] at e
      obtain ⟨rfl, rfl⟩ := e
      exact (h.boxes 0 _ _ rfl).put i v
    | j + 1, e =>
      have e' : bs[j]? = some (k', vs') := by simpa using e
      exact (h.boxes (j + 1) k' vs' e).far (hne (k', vs') (List.mem_of_getElem? e')) v
  · rcases List.mem_cons.1 hp with rfl | hp
    · exact hk
    · exact h.far p (List.mem_cons_of_mem _ hp)
theorem GD.below (h : GD B g w W bs) : Below B w W := by
  have hg := h.cur.ge
  exact (Below.refl _ _).grown h.gb h.base (fun k e => by injection e with e; omega)
end
/-- what a call that draws some number leaves -/
def Near (B g : Nat) (w : World) (e : Ending) (w' : World) : Prop := ∃ x : Int, e = .returned (.int .i64 x) ∧ Cur w' B g ∧ w.grownBy w' (some g)

/-- growth in a block of the call's own -/
theorem GD.grown2 {B g : Nat} {w W W' : World} {bs : List (Nat × List Value)} {row : Option Nat} (h : GD B g w W bs) (hg : W.grownBy W' row) (hr : ∀ r, row = some r → w.heap.size ≤ r) (hne : ∀ p ∈ bs, some p.1 ≠ row) : GD B g w W' bs := by
  have h1 := h.glt
  have h2 := h.base
  refine ⟨h.cur.keep hg (fun r e => Nat.le_trans h2 (hr r e)) (fun e => by have := hr g e; omega), ?_, h1, h2, fun i k vs e => (h.boxes i k vs e).keep fun hl => hg.block k hl (hne (k, vs) (List.mem_of_getElem? e)), h.far⟩
  exact ⟨hg.os.trans h.gb.os, hg.tape.trans h.gb.tape, hg.output.trans h.gb.output, Nat.le_trans h.gb.size hg.size, fun i hi hrn => (hg.block i (Nat.lt_of_lt_of_le hi h.gb.size) (fun e => by have := hr i e.symm; omega)).trans (h.gb.block i hi hrn)⟩
theorem GD.tail {B g : Nat} {w W : World} {bs : List (Nat × List Value)} {p : Nat × List Value} (h : GD B g w W (p :: bs)) : GD B g w W bs := h.pick fun _ hq => List.mem_cons_of_mem _ hq
theorem GD.ne {B g : Nat} {w W : World} {bs : List (Nat × List Value)} {k : Nat} {vs : List Value} (h : GD B g w W ((k, vs) :: bs)) : k ≠ g := by
  have h1 := h.far (k, vs) (by simp)
  have h2 := h.glt
  dsimp only at h1
  omega
/-- a number that is drawn out of three -/
def Of3 (B g : Nat) (p0 p1 p2 : Int) (w : World) (e : Ending) (w' : World) : Prop := ∃ x : Int, (x = p0 ∨ x = p1 ∨ x = p2) ∧ e = .returned (.int .i64 x) ∧ Cur w' B g ∧ w.grownBy w' (some g)

set_option maxHeartbeats 4000000 in
theorem pick3_any (B g k : Nat) (p0 p1 p2 : Int) (w : World) (hC : Cur w B g) (hk : k ≠ g) (hv : Mbox w k [.int .i64 p0, .int .i64 p1, .int .i64 p2]) :
    Calls Try.prog 78 #[.pointer (some ⟨g, 0, none⟩), .slice (some ⟨k, 0, none⟩) 3 3] w (Of3 B g p0 p1 p2 w) := by
  go_enter Try.func78, Try.ntmps78
  go_wp2_with fail
  refine (below_any B g 3 _ hC (by omega) (by omega)).mono ?_
  rintro e w1 ⟨x, x0, x1, rfl, hC1, hg1⟩
  have hv := hv.grownT hg1 hk
  have c0 := hv.c 0
  have c1 := hv.c 1
  have c2 := hv.c 2
  have HC := Lib.hid (And.intro hC1 hg1)
  clear hC hC1 hg1 hv
  obtain rfl | rfl | rfl : x = 0 ∨ x = 1 ∨ x = 2 := by omega
  · go_wp2_with fail
    go_ret
    exact ⟨_, .inl rfl, rfl, HC.out.1, HC.out.2⟩
  · go_wp2_with fail
    go_ret
    exact ⟨_, .inr (.inl rfl), rfl, HC.out.1, HC.out.2⟩
  · go_wp2_with fail
    go_ret
    exact ⟨_, .inr (.inr rfl), rfl, HC.out.1, HC.out.2⟩
end Go.Proofs.Ytaelhbbfddcabaa
