/- Contracts of l02Draw and MakeVec: some small vector. -/
import Derived.Test.YtlaghpcdaolofaaDoorProg
import Derived.Test.YtlaghpcdaolofaaDoorMem
import Derived.Test.YtlaghpcdaolofaaDoorInts
import Derived.Test.YtlaghpcdaolofaaDoorIntS
import Derived.Test.YtlaghpcdaolofaaDoorCur
import Derived.Test.YtlaghpcdaolofaaDoorVbox
import Derived.Test.YtlaghpcdaolofaaDoorVec
import Derived.WalkKit
import Derived.WalkSpells
import Derived.WalkLawsBesides
import Derived.Lib.Hide
import Derived.Handy
namespace Go.Proofs.YtlaghpcdaolofaaDoor
open Go.RowKit

/-- a small vector -/
def Small (x y z : Int) : Prop := (-1000 ≤ x ∧ x ≤ 1000) ∧ (-1000 ≤ y ∧ y ≤ 1000) ∧ (-1000 ≤ z ∧ z ≤ 1000)
theorem Vbox.grown {w w' : World} {k g : Nat} {x y z : Int} (h : Vbox w k x y z) (hg : w.grownBy w' (some g)) (hk : k ≠ g) : Vbox w' k x y z := h.keep (hg.block k h.lt (fun e => by injection e with e; exact hk e))

theorem gb_far {a b : World} {row : Option Nat} {k i : Nat} (h : a.grownBy b row) (hk : a.heap.size ≤ k) (v : Value) : a.grownBy (b.setCell ⟨k, i, none⟩ v) row :=
  ⟨h.os, h.tape, h.output, by simpa using h.size, fun j hj hr => (Below.heap_setCell b _ v j (fun e => by simp at e; omega)).trans (h.block j hj hr)⟩
/-- what a drawn vector's call leaves -/
def VecDrawn (B g : Nat) (w : World) (e : Ending) (w' : World) : Prop := ∃ x y z : Int, Small x y z ∧ e = .returned (vec x y z) ∧ Cur w' B g ∧ Below B w w' ∧ w.grownBy w' (some g)
set_option maxHeartbeats 2000000 in
theorem draw_any (B g : Nat) (w : World) (hC : Cur w B g) (hB : B ≤ w.heap.size) :
    Calls Tryd.prog 21 #[.pointer (some ⟨g, 0, none⟩)] w (VecDrawn B g w) := by
  have hge := hC.ge
  have hgl := hC.lt
  have HR : Vbox (w.alloc (.cells #[.int .i64 0, .int .i64 0, .int .i64 0] 30)) w.heap.size 0 0 0 := Vbox.new w 0 0 0 _
  have HW : Below B w (w.alloc (.cells #[.int .i64 0, .int .i64 0, .int .i64 0] 30)) := (Below.refl _ _).alloc hB _
  have hC0 : Cur (w.alloc (.cells #[.int .i64 0, .int .i64 0, .int .i64 0] 30)) B g := hC.keep (gb_of_below ((Below.refl _ _).alloc (Nat.le_refl _) _) (row := none)) (fun r h => by cases h) (by simp)
  have hz : B ≤ (w.alloc (.cells #[.int .i64 0, .int .i64 0, .int .i64 0] 30)).heap.size := by simp; omega
  have GB : w.grownBy (w.alloc (.cells #[.int .i64 0, .int .i64 0, .int .i64 0] 30)) (some g) := gb_of_below ((Below.refl _ _).alloc (Nat.le_refl _) _)
  go_enter Tryd.func21, Tryd.ntmps21
  go_wp2_with fail
  refine (below_any B g 400 _ hC0 (by omega) (by omega)).mono ?_
  rintro e w1 ⟨x, x0, x1, rfl, hC1, hg1⟩
  have HR := HR.grown hg1 (by omega)
  have HW := HW.grown hg1 hz (fun k h => by injection h with h; omega)
  have GB := gb_trans GB hg1
  have hz := Nat.le_trans hz hg1.size
  have HC := Lib.hid hC1
  clear hC1 hg1 hC0
  go_wp2_with fail
  refine (below_any B g 400 _ HC.out (by omega) (by omega)).mono ?_
  rintro e w2 ⟨y, y0, y1, rfl, hC2, hg2⟩
  have HR := HR.grown hg2 (by omega)
  have HW := HW.grown hg2 hz (fun k h => by injection h with h; omega)
  have GB := gb_trans GB hg2
  have hz := Nat.le_trans hz hg2.size
  have HC2 := Lib.hid hC2
  clear hC2 hg2 HC
  go_wp2_with fail
  refine (below_any B g 300 _ HC2.out (by omega) (by omega)).mono ?_
  rintro e w3 ⟨z, z0, z1, rfl, hC3, hg3⟩
  have HR := HR.grown hg3 (by omega)
  have HW := HW.grown hg3 hz (fun k h => by injection h with h; omega)
  have GB := gb_trans GB hg3
  have HC3 := Lib.hid hC3
  clear hC3 hg3 HC2
  obtain ⟨r0, r1, r2, fr0, fr1, fr2⟩ := id HR
  go_wp2_with fail
  have hg3 : ∀ (a b c : Value), w3.grownBy (((w3.setCell ⟨w.heap.size, 0, none⟩ a).setCell ⟨w.heap.size, 1, none⟩ b).setCell ⟨w.heap.size, 2, none⟩ c) (some w.heap.size) := fun a b c => gb_set (gb_set (gb_set (gb_refl _ _) _) _) _
  exact bodyPost_ret (v := vec (x - 100) (y - 100) z) (by simp [results, Tryd.results21, go_sem, r0, r1, r2]) rfl
    ⟨x - 100, y - 100, z, ⟨⟨by omega, by omega⟩, ⟨by omega, by omega⟩, by omega, by omega⟩, rfl, HC3.out.keep (hg3 _ _ _) (fun r h => by injection h with h; omega) (fun h => by injection h with h; omega), bset3 HW (by omega), gb_far (gb_far (gb_far GB (Nat.le_refl _) _) (Nat.le_refl _) _) (Nat.le_refl _) _⟩

def VecMade (w : World) (e : Ending) (w' : World) : Prop := ∃ x y z : Int, Small x y z ∧ e = .returned (vec x y z) ∧ Below w.heap.size w w'
set_option maxHeartbeats 2000000 in
theorem makeVec_any (A : Option Addr) (c : Nat) (bs : List Int) (n : Int) (w : World) (hR : Row U8 w w.heap.size A bs) (h8 : ∀ x ∈ bs, 0 ≤ x ∧ x ≤ 255) (hl : bs.length ≤ 1048576) (hn0 : 0 ≤ n) (hn : n ≤ 1000) :
    Calls Tryd.prog 9 #[.slice A bs.length c, .int .i64 n] w (VecMade w) := by
  have HW : Below w.heap.size w (w.alloc (.cells #[.int .i64 0, .int .i64 0, .int .i64 0] 30)) := (Below.refl _ _).alloc (Nat.le_refl _) _
  have HR : Vbox (w.alloc (.cells #[.int .i64 0, .int .i64 0, .int .i64 0] 30)) w.heap.size 0 0 0 := Vbox.new w 0 0 0 _
  have hR1 := hR.later HW
  go_enter Tryd.func9, Tryd.ntmps9
  go_wp2_with fail
  refine (new32_any _ _ bs _ _ hR1 h8 hl (by omega) (by omega)).mono ?_
  rintro e w1 ⟨g, rfl, hC, hb⟩
  have HR := HR.later hb
  have HW := bcall HW hb (by simp)
  have hs := hb.size
  have HC := Lib.hid hC
  have HS := Lib.hid hs
  clear hR hR1 h8 hb hC hs
  go_wp2_with fail
  refine (draw_any _ g _ HC.out HS.out).mono ?_
  rintro e w2 ⟨x, y, z, hS, rfl, _, hb2, _⟩
  have HR := HR.keep (hb2.block _ (by simp))
  have HW := HW.trans (hb2.mono (by simp))
  have HSM := Lib.hid hS
  obtain ⟨r0, r1, r2, fr0, fr1, fr2⟩ := id HR
  clear hb2 hS HC HS
  go_wp2_with fail
  exact bodyPost_ret (v := vec x y z) (by simp [results, Tryd.results9, go_sem, r0, r1, r2]) rfl ⟨x, y, z, HSM.out, rfl, bset3 HW (Nat.le_refl _)⟩

end Go.Proofs.YtlaghpcdaolofaaDoor
