/- Words of our own for the boxes that a law lays its vector arguments into. -/
import Derived.Test.YtlaghpcdaolofaaDoorProg
import Derived.Test.YtlaghpcdaolofaaDoorVbox
import Derived.Test.YtlaghpcdaolofaaDoorVec
import Derived.WalkKit
import Derived.WalkSpells
import Derived.WalkLawsBesides
import Derived.Lib.Hide
import Derived.Handy
namespace Go.Proofs.YtlaghpcdaolofaaDoor
open Go.RowKit

/-- the law's two vectors lie in the first two blocks that it made; nothing below has turned -/
def Two (w W : World) (x y z p q r : Int) : Prop := Vbox W w.heap.size x y z ∧ Vbox W (w.heap.size + 1) p q r ∧ Below w.heap.size w W ∧ w.heap.size + 2 ≤ W.heap.size
/-- the same with one vector -/
def One (w W : World) (x y z : Int) : Prop := Vbox W w.heap.size x y z ∧ Below w.heap.size w W ∧ w.heap.size + 1 ≤ W.heap.size
section
variable {w W W' : World} {x y z p q r : Int}
theorem Two.later (h : Two w W x y z p q r) (hb : Below W.heap.size W W') : Two w W' x y z p q r :=
  ⟨h.1.later hb, h.2.1.later hb, bcall h.2.2.1 hb (by have := h.2.2.2; omega), Nat.le_trans h.2.2.2 hb.size⟩
theorem Two.drew (h : Two w W x y z p q r) : Two w W.drew x y z p q r := ⟨h.1.drew, h.2.1.drew, h.2.2.1.drew, h.2.2.2⟩
theorem Two.alloc (h : Two w W x y z p q r) (o : Obj) : Two w (W.alloc o) x y z p q r := ⟨h.1.alloc o, h.2.1.alloc o, h.2.2.1.alloc (by have := h.2.2.2; omega) o, by have := h.2.2.2; simp; omega⟩
theorem Two.set3 (h : Two w W x y z p q r) {g : Nat} (hg : w.heap.size + 2 ≤ g) (a b c : Value) : Two w (((W.setCell ⟨g, 0, none⟩ a).setCell ⟨g, 1, none⟩ b).setCell ⟨g, 2, none⟩ c) x y z p q r :=
  ⟨h.1.far3 (by omega) _ _ _, h.2.1.far3 (by omega) _ _ _, bset3 h.2.2.1 (by omega), size3 h.2.2.2⟩
theorem Two.cells (h : Two w W x y z p q r) : W.cell? ⟨w.heap.size, 0, none⟩ = some (.int .i64 x) ∧ W.cell? ⟨w.heap.size, 1, none⟩ = some (.int .i64 y) ∧ W.cell? ⟨w.heap.size, 2, none⟩ = some (.int .i64 z) ∧
    W.cell? ⟨w.heap.size + 1, 0, none⟩ = some (.int .i64 p) ∧ W.cell? ⟨w.heap.size + 1, 1, none⟩ = some (.int .i64 q) ∧ W.cell? ⟨w.heap.size + 1, 2, none⟩ = some (.int .i64 r) :=
  ⟨h.1.1, h.1.2.1, h.1.2.2.1, h.2.1.1, h.2.1.2.1, h.2.1.2.2.1⟩
theorem Two.start (w : World) (x y z p q r : Int) (t t' : TypeId) : Two w ((w.alloc (.cells #[.int .i64 x, .int .i64 y, .int .i64 z] t)).alloc (.cells #[.int .i64 p, .int .i64 q, .int .i64 r] t')) x y z p q r :=
  ⟨(Vbox.new w x y z t).alloc _, Vbox.new1 w _ p q r t', ((Below.refl _ _).alloc (Nat.le_refl _) _).alloc (by simp) _, by simp⟩
theorem One.later (h : One w W x y z) (hb : Below W.heap.size W W') : One w W' x y z := ⟨h.1.later hb, bcall h.2.1 hb (by have := h.2.2; omega), Nat.le_trans h.2.2 hb.size⟩
theorem One.drew (h : One w W x y z) : One w W.drew x y z := ⟨h.1.drew, h.2.1.drew, h.2.2⟩
theorem One.alloc (h : One w W x y z) (o : Obj) : One w (W.alloc o) x y z := ⟨h.1.alloc o, h.2.1.alloc (by have := h.2.2; omega) o, by have := h.2.2; simp; omega⟩
theorem One.set3 (h : One w W x y z) {g : Nat} (hg : w.heap.size + 1 ≤ g) (a b c : Value) : One w (((W.setCell ⟨g, 0, none⟩ a).setCell ⟨g, 1, none⟩ b).setCell ⟨g, 2, none⟩ c) x y z :=
  ⟨h.1.far3 (by omega) _ _ _, bset3 h.2.1 (by omega), size3 h.2.2⟩
theorem One.cells (h : One w W x y z) : W.cell? ⟨w.heap.size, 0, none⟩ = some (.int .i64 x) ∧ W.cell? ⟨w.heap.size, 1, none⟩ = some (.int .i64 y) ∧ W.cell? ⟨w.heap.size, 2, none⟩ = some (.int .i64 z) := ⟨h.1.1, h.1.2.1, h.1.2.2.1⟩
theorem One.start (w : World) (x y z : Int) (t : TypeId) : One w (w.alloc (.cells #[.int .i64 x, .int .i64 y, .int .i64 z] t)) x y z :=
  ⟨Vbox.new w x y z t, (Below.refl _ _).alloc (Nat.le_refl _) _, by simp⟩
end
end Go.Proofs.YtlaghpcdaolofaaDoor
