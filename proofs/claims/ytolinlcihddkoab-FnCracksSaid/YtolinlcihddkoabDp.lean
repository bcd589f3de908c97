/- The four corners of a cell, as lists. -/
import Derived.Test.YtolinlcihddkoabProg
import Derived.Test.YtolinlcihddkoabInts
import Derived.Test.YtolinlcihddkoabVbox
import Derived.Test.YtolinlcihddkoabVec
import Derived.Test.YtolinlcihddkoabHeld
import Derived.Test.YtolinlcihddkoabMem
import Derived.Test.YtolinlcihddkoabRowC
import Derived.Test.YtolinlcihddkoabCam
import Derived.Test.YtolinlcihddkoabDv
import Derived.WalkKit
import Derived.WalkSpells
import Derived.WalkLawsBesides
import Derived.Lib.Hide
import Derived.Handy
namespace Go.Proofs.Ytolinlcihddkoab
open Go.RowKit

def zer4 : List V3 := [(0, 0, 0), (0, 0, 0), (0, 0, 0), (0, 0, 0)]
def pts4 (C : CV) (P : PV) (lx ly n u v : Int) : List V3 := [gV C P lx ly n u v, gV C P lx ly n (u + 1) v, gV C P lx ly n u (v + 1), gV C P lx ly n (u + 1) (v + 1)]
def kts4 (C : CV) (P : PV) (lx ly n u v : Int) : List Bool := [gK C P lx ly n u v, gK C P lx ly n (u + 1) v, gK C P lx ly n u (v + 1), gK C P lx ly n (u + 1) (v + 1)]
theorem pts4_at (C : CV) (P : PV) (lx ly n u v : Int) (c r : Nat) (hc : c < 2) (hr : r < 2) : (pts4 C P lx ly n u v)[2 * r + c]? = some (gV C P lx ly n (u + c) (v + r)) := by
  have hc' : c = 0 ∨ c = 1 := by omega
  have hr' : r = 0 ∨ r = 1 := by omega
  rcases hc' with rfl | rfl <;> rcases hr' with rfl | rfl <;> simp [pts4]
theorem kts4_at (C : CV) (P : PV) (lx ly n u v : Int) (c r : Nat) (hc : c < 2) (hr : r < 2) : (kts4 C P lx ly n u v)[2 * r + c]? = some (gK C P lx ly n (u + c) (v + r)) := by
  have hc' : c = 0 ∨ c = 1 := by omega
  have hr' : r = 0 ∨ r = 1 := by omega
  rcases hc' with rfl | rfl <;> rcases hr' with rfl | rfl <;> simp [kts4]
theorem all4_of (C : CV) (P : PV) (lx ly n u v : Int) (h : ∀ j, j < 4 → (kts4 C P lx ly n u v)[j]? = some true) : all4 C P lx ly n u v = true := by
  have h0 := h 0 (by omega)
  have h1 := h 1 (by omega)
  have h2 := h 2 (by omega)
  have h3 := h 3 (by omega)
  simp only [kts4, List.getElem?_cons_zero, List.getElem?_cons_succ, Option.some.injEq] at h0 h1 h2 h3
  simp [all4, h0, h1, h2, h3]
theorem all4_not (C : CV) (P : PV) (lx ly n u v : Int) (c r : Nat) (hc : c < 2) (hr : r < 2) (h : gK C P lx ly n (u + c) (v + r) = false) : all4 C P lx ly n u v = false := by
  have hc' : c = 0 ∨ c = 1 := by omega
  have hr' : r = 0 ∨ r = 1 := by omega
  rcases hc' with rfl | rfl <;> rcases hr' with rfl | rfl <;> simp at h <;> simp [all4, h]
theorem own_row0 (w : World) (e : TypeId) {size : Nat} : (w.alloc (.cells #[] e)).ownsRow w.heap.size e size (.slice (some ⟨w.heap.size, 0, none⟩) 0 0) 0 [] := World.ownsRow_made w #[] 0 (Nat.le_refl _) (by unfold maxLen; omega) (by simp)
end Go.Proofs.Ytolinlcihddkoab
