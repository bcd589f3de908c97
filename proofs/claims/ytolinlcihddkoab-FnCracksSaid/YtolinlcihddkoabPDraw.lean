/- Contracts of drawn patches: l05Draw and MakePatch. -/
import Derived.Test.YtolinlcihddkoabProg
import Derived.Test.YtolinlcihddkoabInts
import Derived.Test.YtolinlcihddkoabMem
import Derived.Test.YtolinlcihddkoabIntS
import Derived.Test.YtolinlcihddkoabCur
import Derived.Test.YtolinlcihddkoabVbox
import Derived.Test.YtolinlcihddkoabVec
import Derived.Test.YtolinlcihddkoabHeld
import Derived.Test.YtolinlcihddkoabFlat
import Derived.Test.YtolinlcihddkoabRowC
import Derived.Test.YtolinlcihddkoabArr
import Derived.Test.YtolinlcihddkoabTr
import Derived.Test.YtolinlcihddkoabPat
import Derived.Test.YtolinlcihddkoabVDraw
import Derived.WalkKit
import Derived.WalkSpells
import Derived.WalkLawsBesides
import Derived.Lib.Hide
import Derived.Deep.RegionHeld3
import Derived.Deep.QuietTactic
import Derived.BigQuiet
import Derived.Handy
import Derived.Deep.DeepCutAuto
namespace Go.Proofs.Ytolinlcihddkoab
open Go.RowKit

def SmallV (v : V3) : Prop := Small v.1 v.2.1 v.2.2
def PatDrawn (B g : Nat) (w : World) (E : Ending) (w' : World) : Prop := ∃ a0 a1 a2 a3 a4 a5 a6 a7 a8 x y z : Int, (∀ v ∈ ([(a0, a1, a2), (a3, a4, a5), (a6, a7, a8), (x, y, z)] : List V3), SmallV v) ∧ E = .returned (tr a0 a1 a2 a3 a4 a5 a6 a7 a8 x y z) ∧ Cur w' B g ∧ Below B w w'
def PatMade (w : World) (E : Ending) (w' : World) : Prop := ∃ a0 a1 a2 a3 a4 a5 a6 a7 a8 x y z : Int, (∀ v ∈ ([(a0, a1, a2), (a3, a4, a5), (a6, a7, a8), (x, y, z)] : List V3), SmallV v) ∧ E = .returned (tr a0 a1 a2 a3 a4 a5 a6 a7 a8 x y z) ∧ Below w.heap.size w w'
theorem Mbox.grownQ {w w' : World} {k g : Nat} {vs : List Value} (h : Mbox w k vs) (hg : w.grownBy w' (some g)) (hk : k ≠ g) : Mbox w' k vs := h.keep fun hl => hg.block k hl (fun e => by injection e with e; exact hk e)
def padD (vs : List V3) : List V3 := vs ++ List.replicate (4 - vs.length) (0, 0, 0)
theorem padD_at {vs : List V3} (h : vs.length < 4) : (padD vs)[vs.length]? = some (0, 0, 0) := by
  unfold padD
  rw [List.getElem?_append_right (Nat.le_refl _), Nat.sub_self, List.getElem?_replicate, if_pos (by omega)]
theorem padD_step {vs : List V3} (h : vs.length < 4) (v : V3) : (padD vs).set vs.length v = padD (vs ++ [v]) := by
  unfold padD
  rw [List.set_append_right _ _ (Nat.le_refl _), Nat.sub_self, show 4 - vs.length = (4 - (vs.length + 1)) + 1 by omega, List.replicate_succ, List.set_cons_zero, List.length_append, List.append_assoc]
  rfl
theorem padD_all {vs : List V3} (h : vs.length = 4) : padD vs = vs := by simp [padD, h]
theorem list4D {ps : List V3} (h : ps.length = 4) : ∃ a0 a1 a2 a3 a4 a5 a6 a7 a8 x y z : Int, ps = [(a0, a1, a2), (a3, a4, a5), (a6, a7, a8), (x, y, z)] := by
  match ps, h with
  | [(b0, b1, b2), (b3, b4, b5), (b6, b7, b8), (b9, b10, b11)], _ => exact ⟨b0, b1, b2, b3, b4, b5, b6, b7, b8, b9, b10, b11, rfl⟩
theorem Mbox.putD {W : World} {b : Nat} {xs : List V3} (h : Mbox W b (xs.flatMap vg)) (k : Nat) (v : V3) :
    Mbox (((W.setCell ⟨b, k * 3, none⟩ (.int .i64 v.1)).setCell ⟨b, k * 3 + 1, none⟩ (.int .i64 v.2.1)).setCell ⟨b, k * 3 + 2, none⟩ (.int .i64 v.2.2)) b ((xs.set k v).flatMap vg) := by
  rw [← vg_set]
  exact ((h.put (k * 3) _).put (k * 3 + 1) _).put (k * 3 + 2) _

set_option maxRecDepth 100000 in
set_option maxHeartbeats 4000000 in
theorem draw5_any (B g : Nat) (w : World) (hC : Cur w B g) (hB : B ≤ w.heap.size) :
    Calls Try.prog 11 #[.pointer (some ⟨g, 0, none⟩)] w (PatDrawn B g w) := by
  have hge := hC.ge
  have hgl := hC.lt
  have HR : Mbox (((w.alloc (.cells #[.int .i64 0, .int .i64 0, .int .i64 0, .int .i64 0, .int .i64 0, .int .i64 0, .int .i64 0, .int .i64 0, .int .i64 0, .int .i64 0, .int .i64 0, .int .i64 0] 30)).alloc (.cells #[.int .i64 0, .int .i64 0, .int .i64 0, .int .i64 0, .int .i64 0, .int .i64 0, .int .i64 0, .int .i64 0, .int .i64 0, .int .i64 0, .int .i64 0, .int .i64 0] 30))) w.heap.size [.int .i64 0, .int .i64 0, .int .i64 0, .int .i64 0, .int .i64 0, .int .i64 0, .int .i64 0, .int .i64 0, .int .i64 0, .int .i64 0, .int .i64 0, .int .i64 0] := (Mbox.new w #[.int .i64 0, .int .i64 0, .int .i64 0, .int .i64 0, .int .i64 0, .int .i64 0, .int .i64 0, .int .i64 0, .int .i64 0, .int .i64 0, .int .i64 0, .int .i64 0] 30).alloc _
  have HQ : Mbox (((w.alloc (.cells #[.int .i64 0, .int .i64 0, .int .i64 0, .int .i64 0, .int .i64 0, .int .i64 0, .int .i64 0, .int .i64 0, .int .i64 0, .int .i64 0, .int .i64 0, .int .i64 0] 30)).alloc (.cells #[.int .i64 0, .int .i64 0, .int .i64 0, .int .i64 0, .int .i64 0, .int .i64 0, .int .i64 0, .int .i64 0, .int .i64 0, .int .i64 0, .int .i64 0, .int .i64 0] 30))) (w.heap.size + 1) ((padD []).flatMap vg) := by
    have h := Mbox.new (w.alloc (.cells #[.int .i64 0, .int .i64 0, .int .i64 0, .int .i64 0, .int .i64 0, .int .i64 0, .int .i64 0, .int .i64 0, .int .i64 0, .int .i64 0, .int .i64 0, .int .i64 0] 30)) #[.int .i64 0, .int .i64 0, .int .i64 0, .int .i64 0, .int .i64 0, .int .i64 0, .int .i64 0, .int .i64 0, .int .i64 0, .int .i64 0, .int .i64 0, .int .i64 0] 30
    rw [World.size_alloc] at h
    exact h
  have HW : Below B w (((w.alloc (.cells #[.int .i64 0, .int .i64 0, .int .i64 0, .int .i64 0, .int .i64 0, .int .i64 0, .int .i64 0, .int .i64 0, .int .i64 0, .int .i64 0, .int .i64 0, .int .i64 0] 30)).alloc (.cells #[.int .i64 0, .int .i64 0, .int .i64 0, .int .i64 0, .int .i64 0, .int .i64 0, .int .i64 0, .int .i64 0, .int .i64 0, .int .i64 0, .int .i64 0, .int .i64 0] 30))) := ((Below.refl _ _).alloc hB _).alloc (by simp; omega) _
  have hC0 : Cur (((w.alloc (.cells #[.int .i64 0, .int .i64 0, .int .i64 0, .int .i64 0, .int .i64 0, .int .i64 0, .int .i64 0, .int .i64 0, .int .i64 0, .int .i64 0, .int .i64 0, .int .i64 0] 30)).alloc (.cells #[.int .i64 0, .int .i64 0, .int .i64 0, .int .i64 0, .int .i64 0, .int .i64 0, .int .i64 0, .int .i64 0, .int .i64 0, .int .i64 0, .int .i64 0, .int .i64 0] 30))) B g := (hC.keep (gb_of_below ((Below.refl _ _).alloc (Nat.le_refl _) _) (row := none)) (fun r h => by cases h) (by simp)).keep (gb_of_below ((Below.refl _ _).alloc (Nat.le_refl _) _) (row := none)) (fun r h => by cases h) (by simp)
  have hz : B ≤ (((w.alloc (.cells #[.int .i64 0, .int .i64 0, .int .i64 0, .int .i64 0, .int .i64 0, .int .i64 0, .int .i64 0, .int .i64 0, .int .i64 0, .int .i64 0, .int .i64 0, .int .i64 0] 30)).alloc (.cells #[.int .i64 0, .int .i64 0, .int .i64 0, .int .i64 0, .int .i64 0, .int .i64 0, .int .i64 0, .int .i64 0, .int .i64 0, .int .i64 0, .int .i64 0, .int .i64 0] 30))).heap.size := by simp; omega
  have hz2 : w.heap.size + 2 ≤ (((w.alloc (.cells #[.int .i64 0, .int .i64 0, .int .i64 0, .int .i64 0, .int .i64 0, .int .i64 0, .int .i64 0, .int .i64 0, .int .i64 0, .int .i64 0, .int .i64 0, .int .i64 0] 30)).alloc (.cells #[.int .i64 0, .int .i64 0, .int .i64 0, .int .i64 0, .int .i64 0, .int .i64 0, .int .i64 0, .int .i64 0, .int .i64 0, .int .i64 0, .int .i64 0, .int .i64 0] 30))).heap.size := by simp
  have HC := Lib.hid hC0
  clear hC hC0
  go_enter Try.func11, Try.ntmps11
  go_wp2_with fail
  refine (below_any B g 160 _ HC.out (by omega) (by omega)).mono ?_
  rintro e w1 ⟨x, xlo, xhi, rfl, hC1, hg1⟩
  have HR := HR.grownQ hg1 (by omega)
  have HQ := HQ.grownQ hg1 (by omega)
  have HW := HW.grown hg1 hz (fun k h => by injection h with h; omega)
  have hz := Nat.le_trans hz hg1.size
  have hz2 := Nat.le_trans hz2 hg1.size
  have HC := Lib.hid hC1
  clear hC1 hg1
  go_wp2_with fail
  refine (below_any B g 160 _ HC.out (by omega) (by omega)).mono ?_
  rintro e w2 ⟨y, ylo, yhi, rfl, hC2, hg2⟩
  have HR := HR.grownQ hg2 (by omega)
  have HQ := HQ.grownQ hg2 (by omega)
  have HW := HW.grown hg2 hz (fun k h => by injection h with h; omega)
  have hz := Nat.le_trans hz hg2.size
  have hz2 := Nat.le_trans hz2 hg2.size
  have HC := Lib.hid hC2
  clear hC2 hg2
  go_wp2_with fail
  refine (below_any B g 200 _ HC.out (by omega) (by omega)).mono ?_
  rintro e w3 ⟨z, zlo, zhi, rfl, hC3, hg3⟩
  have HR := HR.grownQ hg3 (by omega)
  have HQ := HQ.grownQ hg3 (by omega)
  have HW := HW.grown hg3 hz (fun k h => by injection h with h; omega)
  have hz := Nat.le_trans hz hg3.size
  have hz2 := Nat.le_trans hz2 hg3.size
  have HC := Lib.hid hC3
  clear hC3 hg3
  obtain ⟨xx, hx⟩ : ∃ v, v = x - 80 := ⟨_, rfl⟩
  obtain ⟨yy, hy⟩ : ∃ v, v = y - 80 := ⟨_, rfl⟩
  obtain ⟨zz, hzz⟩ : ∃ v, v = 60 + z := ⟨_, rfl⟩
  go_upto_region 5 with fail
  rw [← hx, ← hy, ← hzz]
  have hbd : (-80 ≤ xx ∧ xx ≤ 80) ∧ (-80 ≤ yy ∧ yy ≤ 80) ∧ 60 ≤ zz ∧ zz ≤ 260 := by omega
  clear hx hy hzz xlo xhi ylo yhi zlo zhi
  obtain ⟨⟨xl, xh⟩, ⟨yl, yh⟩, zl, zh⟩ := hbd
  go_wp2
  go_loopw [18] (fun i wr => ∃ (k : Int) (vs : List V3), 0 ≤ k ∧ k ≤ 4 ∧ (vs.length : Int) = k ∧ i = .int .i64 k ∧ (∀ v ∈ vs, SmallV v) ∧ Mbox wr (w.heap.size + 1) ((padD vs).flatMap vg) ∧ Mbox wr w.heap.size [.int .i64 0, .int .i64 0, .int .i64 0, .int .i64 0, .int .i64 0, .int .i64 0, .int .i64 0, .int .i64 0, .int .i64 0, .int .i64 0, .int .i64 0, .int .i64 0] ∧ Cur wr B g ∧ Below B w wr ∧ w.heap.size + 2 ≤ wr.heap.size) (fun i _ => 4 - (intOf i).toNat)
  case atStart => exact ⟨0, [], by omega, by omega, rfl, rfl, (fun v h => by cases h), HQ, HR, HC.out, HW, hz2⟩
  case round =>
    clear HQ HR HC HW hz2 hz
    obtain ⟨k, vs, hk0, hk, hvl, rfl, hsv, HQ, HR, hC, HW, hz2⟩ := hrel
    have HC := Lib.hid hC
    have hz : B ≤ wr.heap.size := by omega
    clear hC
    have hk4 : k = 0 ∨ k = 1 ∨ k = 2 ∨ k = 3 ∨ k = 4 := by omega
    clear hk hk0
    rcases hk4 with rfl | rfl | rfl | rfl | rfl
    · have hat := padD_at (vs := vs) (by omega)
      have hvl : vs.length = 0 := by omega
      rw [hvl] at hat
      have HAT := Lib.hid hat
      have HSV := Lib.hid hsv
      clear hat hsv
      go_wp2_with fail
      refine (below_any B g 60 _ HC.out (by omega) (by omega)).mono ?_
      rintro e w4 ⟨d1, d1lo, d1hi, rfl, hC4, hg4⟩
      have HR := HR.grownQ hg4 (by omega)
      have HQ := HQ.grownQ hg4 (by omega)
      have HW := HW.grown hg4 hz (fun k h => by injection h with h; omega)
      have hz := Nat.le_trans hz hg4.size
      have hz2 := Nat.le_trans hz2 hg4.size
      have HC := Lib.hid hC4
      clear hC4 hg4
      go_wp2_with fail
      refine (below_any B g 60 _ HC.out (by omega) (by omega)).mono ?_
      rintro e w5 ⟨d2, d2lo, d2hi, rfl, hC5, hg5⟩
      have HR := HR.grownQ hg5 (by omega)
      have HQ := HQ.grownQ hg5 (by omega)
      have HW := HW.grown hg5 hz (fun k h => by injection h with h; omega)
      have hz := Nat.le_trans hz hg5.size
      have hz2 := Nat.le_trans hz2 hg5.size
      have HC := Lib.hid hC5
      clear hC5 hg5
      go_wp2_with fail
      refine (below_any B g 30 _ HC.out (by omega) (by omega)).mono ?_
      rintro e w6 ⟨d3, d3lo, d3hi, rfl, hC6, hg6⟩
      have HR := HR.grownQ hg6 (by omega)
      have HQ := HQ.grownQ hg6 (by omega)
      have HW := HW.grown hg6 hz (fun k h => by injection h with h; omega)
      have hz := Nat.le_trans hz hg6.size
      have hz2 := Nat.le_trans hz2 hg6.size
      have HC := Lib.hid hC6
      clear hC6 hg6
      obtain ⟨c0, c1, c2⟩ := HQ.v3 HAT.out
      obtain ⟨f0, f1, f2⟩ := HQ.v3f HAT.out
      have hst := padD_step (vs := vs) (by omega) (xx, yy, zz + d3)
      rw [hvl] at hst
      have HP := HQ.putD 0 (xx, yy, zz + d3)
      rw [hst] at HP
      have HH := Lib.hid HP
      have gb : w6.grownBy (((w6.setCell ⟨w.heap.size + 1, 0, none⟩ (.int .i64 (xx))).setCell ⟨w.heap.size + 1, 1, none⟩ (.int .i64 (yy))).setCell ⟨w.heap.size + 1, 2, none⟩ (.int .i64 (zz + d3))) (some (w.heap.size + 1)) := gb_set (gb_set (gb_set (gb_refl _ _) _) _) _
      have HCN := Lib.hid (HC.out.keep gb (fun r h => by injection h with h; omega) (fun h => by injection h with h; omega))
      have HWN := Lib.hid (HW.grown gb hz (fun k h => by injection h with h; omega))
      have HRN := Lib.hid (HR.grownQ gb (by omega))
      have HSN : Hid (∀ v ∈ vs ++ [(xx, yy, zz + d3)], SmallV v) := Lib.hid (fun v hv => by
        rcases List.mem_append.1 hv with hv | hv
        · exact HSV.out v hv
        · rw [List.mem_singleton.1 hv]
          exact ⟨by constructor <;> dsimp only <;> omega, by constructor <;> dsimp only <;> omega, by constructor <;> dsimp only <;> omega⟩)
      clear HP HQ gb hst HC HW HR HAT
      go_wp2_with fail
      go_roundw
      case rel => exact ⟨1, vs ++ [(xx, yy, zz + d3)], by omega, by omega, by simp [hvl], rfl, HSN.out, HH.out, HRN.out, HCN.out, HWN.out, by simpa using hz2⟩
      case measure => simp [intOf]
    · have hat := padD_at (vs := vs) (by omega)
      have hvl : vs.length = 1 := by omega
      rw [hvl] at hat
      have HAT := Lib.hid hat
      have HSV := Lib.hid hsv
      clear hat hsv
      go_wp2_with fail
      refine (below_any B g 60 _ HC.out (by omega) (by omega)).mono ?_
      rintro e w4 ⟨d1, d1lo, d1hi, rfl, hC4, hg4⟩
      have HR := HR.grownQ hg4 (by omega)
      have HQ := HQ.grownQ hg4 (by omega)
      have HW := HW.grown hg4 hz (fun k h => by injection h with h; omega)
      have hz := Nat.le_trans hz hg4.size
      have hz2 := Nat.le_trans hz2 hg4.size
      have HC := Lib.hid hC4
      clear hC4 hg4
      go_wp2_with fail
      refine (below_any B g 60 _ HC.out (by omega) (by omega)).mono ?_
      rintro e w5 ⟨d2, d2lo, d2hi, rfl, hC5, hg5⟩
      have HR := HR.grownQ hg5 (by omega)
      have HQ := HQ.grownQ hg5 (by omega)
      have HW := HW.grown hg5 hz (fun k h => by injection h with h; omega)
      have hz := Nat.le_trans hz hg5.size
      have hz2 := Nat.le_trans hz2 hg5.size
      have HC := Lib.hid hC5
      clear hC5 hg5
      go_wp2_with fail
      refine (below_any B g 30 _ HC.out (by omega) (by omega)).mono ?_
      rintro e w6 ⟨d3, d3lo, d3hi, rfl, hC6, hg6⟩
      have HR := HR.grownQ hg6 (by omega)
      have HQ := HQ.grownQ hg6 (by omega)
      have HW := HW.grown hg6 hz (fun k h => by injection h with h; omega)
      have hz := Nat.le_trans hz hg6.size
      have hz2 := Nat.le_trans hz2 hg6.size
      have HC := Lib.hid hC6
      clear hC6 hg6
      obtain ⟨c0, c1, c2⟩ := HQ.v3 HAT.out
      obtain ⟨f0, f1, f2⟩ := HQ.v3f HAT.out
      have hst := padD_step (vs := vs) (by omega) (xx + (20 + d1), yy, zz + d3)
      rw [hvl] at hst
      have HP := HQ.putD 1 (xx + (20 + d1), yy, zz + d3)
      rw [hst] at HP
      have HH := Lib.hid HP
      have gb : w6.grownBy (((w6.setCell ⟨w.heap.size + 1, 3, none⟩ (.int .i64 (xx + (20 + d1)))).setCell ⟨w.heap.size + 1, 4, none⟩ (.int .i64 (yy))).setCell ⟨w.heap.size + 1, 5, none⟩ (.int .i64 (zz + d3))) (some (w.heap.size + 1)) := gb_set (gb_set (gb_set (gb_refl _ _) _) _) _
      have HCN := Lib.hid (HC.out.keep gb (fun r h => by injection h with h; omega) (fun h => by injection h with h; omega))
      have HWN := Lib.hid (HW.grown gb hz (fun k h => by injection h with h; omega))
      have HRN := Lib.hid (HR.grownQ gb (by omega))
      have HSN : Hid (∀ v ∈ vs ++ [(xx + (20 + d1), yy, zz + d3)], SmallV v) := Lib.hid (fun v hv => by
        rcases List.mem_append.1 hv with hv | hv
        · exact HSV.out v hv
        · rw [List.mem_singleton.1 hv]
          exact ⟨by constructor <;> dsimp only <;> omega, by constructor <;> dsimp only <;> omega, by constructor <;> dsimp only <;> omega⟩)
      clear HP HQ gb hst HC HW HR HAT
      go_wp2_with fail
      go_roundw
      case rel => exact ⟨2, vs ++ [(xx + (20 + d1), yy, zz + d3)], by omega, by omega, by simp [hvl], rfl, HSN.out, HH.out, HRN.out, HCN.out, HWN.out, by simpa using hz2⟩
      case measure => simp [intOf]
    · have hat := padD_at (vs := vs) (by omega)
      have hvl : vs.length = 2 := by omega
      rw [hvl] at hat
      have HAT := Lib.hid hat
      have HSV := Lib.hid hsv
      clear hat hsv
      go_wp2_with fail
      refine (below_any B g 60 _ HC.out (by omega) (by omega)).mono ?_
      rintro e w4 ⟨d1, d1lo, d1hi, rfl, hC4, hg4⟩
      have HR := HR.grownQ hg4 (by omega)
      have HQ := HQ.grownQ hg4 (by omega)
      have HW := HW.grown hg4 hz (fun k h => by injection h with h; omega)
      have hz := Nat.le_trans hz hg4.size
      have hz2 := Nat.le_trans hz2 hg4.size
      have HC := Lib.hid hC4
      clear hC4 hg4
      go_wp2_with fail
      refine (below_any B g 60 _ HC.out (by omega) (by omega)).mono ?_
      rintro e w5 ⟨d2, d2lo, d2hi, rfl, hC5, hg5⟩
      have HR := HR.grownQ hg5 (by omega)
      have HQ := HQ.grownQ hg5 (by omega)
      have HW := HW.grown hg5 hz (fun k h => by injection h with h; omega)
      have hz := Nat.le_trans hz hg5.size
      have hz2 := Nat.le_trans hz2 hg5.size
      have HC := Lib.hid hC5
      clear hC5 hg5
      go_wp2_with fail
      refine (below_any B g 30 _ HC.out (by omega) (by omega)).mono ?_
      rintro e w6 ⟨d3, d3lo, d3hi, rfl, hC6, hg6⟩
      have HR := HR.grownQ hg6 (by omega)
      have HQ := HQ.grownQ hg6 (by omega)
      have HW := HW.grown hg6 hz (fun k h => by injection h with h; omega)
      have hz := Nat.le_trans hz hg6.size
      have hz2 := Nat.le_trans hz2 hg6.size
      have HC := Lib.hid hC6
      clear hC6 hg6
      obtain ⟨c0, c1, c2⟩ := HQ.v3 HAT.out
      obtain ⟨f0, f1, f2⟩ := HQ.v3f HAT.out
      have hst := padD_step (vs := vs) (by omega) (xx, yy + (20 + d2), zz + d3)
      rw [hvl] at hst
      have HP := HQ.putD 2 (xx, yy + (20 + d2), zz + d3)
      rw [hst] at HP
      have HH := Lib.hid HP
      have gb : w6.grownBy (((w6.setCell ⟨w.heap.size + 1, 6, none⟩ (.int .i64 (xx))).setCell ⟨w.heap.size + 1, 7, none⟩ (.int .i64 (yy + (20 + d2)))).setCell ⟨w.heap.size + 1, 8, none⟩ (.int .i64 (zz + d3))) (some (w.heap.size + 1)) := gb_set (gb_set (gb_set (gb_refl _ _) _) _) _
      have HCN := Lib.hid (HC.out.keep gb (fun r h => by injection h with h; omega) (fun h => by injection h with h; omega))
      have HWN := Lib.hid (HW.grown gb hz (fun k h => by injection h with h; omega))
      have HRN := Lib.hid (HR.grownQ gb (by omega))
      have HSN : Hid (∀ v ∈ vs ++ [(xx, yy + (20 + d2), zz + d3)], SmallV v) := Lib.hid (fun v hv => by
        rcases List.mem_append.1 hv with hv | hv
        · exact HSV.out v hv
        · rw [List.mem_singleton.1 hv]
          exact ⟨by constructor <;> dsimp only <;> omega, by constructor <;> dsimp only <;> omega, by constructor <;> dsimp only <;> omega⟩)
      clear HP HQ gb hst HC HW HR HAT
      go_wp2_with fail
      go_roundw
      case rel => exact ⟨3, vs ++ [(xx, yy + (20 + d2), zz + d3)], by omega, by omega, by simp [hvl], rfl, HSN.out, HH.out, HRN.out, HCN.out, HWN.out, by simpa using hz2⟩
      case measure => simp [intOf]
    · have hat := padD_at (vs := vs) (by omega)
      have hvl : vs.length = 3 := by omega
      rw [hvl] at hat
      have HAT := Lib.hid hat
      have HSV := Lib.hid hsv
      clear hat hsv
      go_wp2_with fail
      refine (below_any B g 60 _ HC.out (by omega) (by omega)).mono ?_
      rintro e w4 ⟨d1, d1lo, d1hi, rfl, hC4, hg4⟩
      have HR := HR.grownQ hg4 (by omega)
      have HQ := HQ.grownQ hg4 (by omega)
      have HW := HW.grown hg4 hz (fun k h => by injection h with h; omega)
      have hz := Nat.le_trans hz hg4.size
      have hz2 := Nat.le_trans hz2 hg4.size
      have HC := Lib.hid hC4
      clear hC4 hg4
      go_wp2_with fail
      refine (below_any B g 60 _ HC.out (by omega) (by omega)).mono ?_
      rintro e w5 ⟨d2, d2lo, d2hi, rfl, hC5, hg5⟩
      have HR := HR.grownQ hg5 (by omega)
      have HQ := HQ.grownQ hg5 (by omega)
      have HW := HW.grown hg5 hz (fun k h => by injection h with h; omega)
      have hz := Nat.le_trans hz hg5.size
      have hz2 := Nat.le_trans hz2 hg5.size
      have HC := Lib.hid hC5
      clear hC5 hg5
      go_wp2_with fail
      refine (below_any B g 30 _ HC.out (by omega) (by omega)).mono ?_
      rintro e w6 ⟨d3, d3lo, d3hi, rfl, hC6, hg6⟩
      have HR := HR.grownQ hg6 (by omega)
      have HQ := HQ.grownQ hg6 (by omega)
      have HW := HW.grown hg6 hz (fun k h => by injection h with h; omega)
      have hz := Nat.le_trans hz hg6.size
      have hz2 := Nat.le_trans hz2 hg6.size
      have HC := Lib.hid hC6
      clear hC6 hg6
      obtain ⟨c0, c1, c2⟩ := HQ.v3 HAT.out
      obtain ⟨f0, f1, f2⟩ := HQ.v3f HAT.out
      have hst := padD_step (vs := vs) (by omega) (xx + (20 + d1), yy + (20 + d2), zz + d3)
      rw [hvl] at hst
      have HP := HQ.putD 3 (xx + (20 + d1), yy + (20 + d2), zz + d3)
      rw [hst] at HP
      have HH := Lib.hid HP
      have gb : w6.grownBy (((w6.setCell ⟨w.heap.size + 1, 9, none⟩ (.int .i64 (xx + (20 + d1)))).setCell ⟨w.heap.size + 1, 10, none⟩ (.int .i64 (yy + (20 + d2)))).setCell ⟨w.heap.size + 1, 11, none⟩ (.int .i64 (zz + d3))) (some (w.heap.size + 1)) := gb_set (gb_set (gb_set (gb_refl _ _) _) _) _
      have HCN := Lib.hid (HC.out.keep gb (fun r h => by injection h with h; omega) (fun h => by injection h with h; omega))
      have HWN := Lib.hid (HW.grown gb hz (fun k h => by injection h with h; omega))
      have HRN := Lib.hid (HR.grownQ gb (by omega))
      have HSN : Hid (∀ v ∈ vs ++ [(xx + (20 + d1), yy + (20 + d2), zz + d3)], SmallV v) := Lib.hid (fun v hv => by
        rcases List.mem_append.1 hv with hv | hv
        · exact HSV.out v hv
        · rw [List.mem_singleton.1 hv]
          exact ⟨by constructor <;> dsimp only <;> omega, by constructor <;> dsimp only <;> omega, by constructor <;> dsimp only <;> omega⟩)
      clear HP HQ gb hst HC HW HR HAT
      go_wp2_with fail
      go_roundw
      case rel => exact ⟨4, vs ++ [(xx + (20 + d1), yy + (20 + d2), zz + d3)], by omega, by omega, by simp [hvl], rfl, HSN.out, HH.out, HRN.out, HCN.out, HWN.out, by simpa using hz2⟩
      case measure => simp [intOf]
    · have hvl : vs.length = 4 := by omega
      rw [padD_all hvl] at HQ
      obtain ⟨b0, b1, b2, b3, b4, b5, b6, b7, b8, b9, b10, b11, rfl⟩ := list4D hvl
      have HQ : Mbox wr (w.heap.size + 1) [.int .i64 b0, .int .i64 b1, .int .i64 b2, .int .i64 b3, .int .i64 b4, .int .i64 b5, .int .i64 b6, .int .i64 b7, .int .i64 b8, .int .i64 b9, .int .i64 b10, .int .i64 b11] := HQ
      have HSV := Lib.hid hsv
      clear hsv hvl
      have c0 := HQ.c 0
      have c1 := HQ.c 1
      have c2 := HQ.c 2
      have c3 := HQ.c 3
      have c4 := HQ.c 4
      have c5 := HQ.c 5
      have c6 := HQ.c 6
      have c7 := HQ.c 7
      have c8 := HQ.c 8
      have c9 := HQ.c 9
      have c10 := HQ.c 10
      have c11 := HQ.c 11
      have r0 := HR.c 0
      have r1 := HR.c 1
      have r2 := HR.c 2
      have r3 := HR.c 3
      have r4 := HR.c 4
      have r5 := HR.c 5
      have r6 := HR.c 6
      have r7 := HR.c 7
      have r8 := HR.c 8
      have r9 := HR.c 9
      have r10 := HR.c 10
      have r11 := HR.c 11
      have g0 := HR.f 0
      have g1 := HR.f 1
      have g2 := HR.f 2
      have g3 := HR.f 3
      have g4 := HR.f 4
      have g5 := HR.f 5
      have g6 := HR.f 6
      have g7 := HR.f 7
      have g8 := HR.f 8
      have g9 := HR.f 9
      have g10 := HR.f 10
      have g11 := HR.f 11
      have HCN : Hid (∀ W : World, wr.grownBy W (some w.heap.size) → Cur W B g) := Lib.hid (fun W gb => HC.out.keep gb (fun r h => by injection h with h; omega) (fun h => by injection h with h; omega))
      clear HQ HR HC
      go_wp2_with fail
      exact bodyPost_ret (v := tr b0 b1 b2 b3 b4 b5 b6 b7 b8 b9 b10 b11) (by simp [results, Try.results11, go_sem, r0, r1, r2, r3, r4, r5, r6, r7, r8, r9, r10, r11]) rfl ⟨b0, b1, b2, b3, b4, b5, b6, b7, b8, b9, b10, b11, HSV.out, rfl, HCN.out _ (gb_set (gb_set (gb_set (gb_set (gb_set (gb_set (gb_set (gb_set (gb_set (gb_set (gb_set (gb_set (gb_refl _ _) _) _) _) _) _) _) _) _) _) _) _) _), bset_far12 HW (by omega)⟩

set_option maxHeartbeats 2000000 in
theorem makePatch_any (A : Option Addr) (c : Nat) (bs : List Int) (n : Int) (w : World) (hR : Row U8 w w.heap.size A bs) (h8 : ∀ x ∈ bs, 0 ≤ x ∧ x ≤ 255) (hl : bs.length ≤ 1048576) (hn0 : 0 ≤ n) (hn : n ≤ 1000) :
    Calls Try.prog 5 #[.slice A bs.length c, .int .i64 n] w (PatMade w) := by
  have HW : Below w.heap.size w (w.alloc (.cells #[.int .i64 0, .int .i64 0, .int .i64 0, .int .i64 0, .int .i64 0, .int .i64 0, .int .i64 0, .int .i64 0, .int .i64 0, .int .i64 0, .int .i64 0, .int .i64 0] 30)) := (Below.refl _ _).alloc (Nat.le_refl _) _
  have HR : Mbox (w.alloc (.cells #[.int .i64 0, .int .i64 0, .int .i64 0, .int .i64 0, .int .i64 0, .int .i64 0, .int .i64 0, .int .i64 0, .int .i64 0, .int .i64 0, .int .i64 0, .int .i64 0] 30)) w.heap.size [.int .i64 0, .int .i64 0, .int .i64 0, .int .i64 0, .int .i64 0, .int .i64 0, .int .i64 0, .int .i64 0, .int .i64 0, .int .i64 0, .int .i64 0, .int .i64 0] := Mbox.new w #[.int .i64 0, .int .i64 0, .int .i64 0, .int .i64 0, .int .i64 0, .int .i64 0, .int .i64 0, .int .i64 0, .int .i64 0, .int .i64 0, .int .i64 0, .int .i64 0] 30
  have hR1 := hR.later HW
  go_enter Try.func5, Try.ntmps5
  go_wp2_with fail
  refine (new32_any _ _ bs _ _ hR1 h8 hl (by omega) (by omega)).mono ?_
  rintro e w1 ⟨g, rfl, hC, hb⟩
  have HR := HR.later hb
  have HW := bcall HW hb (by simp)
  have hs := hb.size
  have HC := Lib.hid hC
  have HS := Lib.hid hs
  clear hR hR1 h8 hb hC hs
  go_wp2_with fail
  refine (draw5_any _ g _ HC.out HS.out).mono ?_
  rintro e w2 ⟨a0, a1, a2, a3, a4, a5, a6, a7, a8, x, y, z, hS, rfl, _, hb2⟩
  have HR := HR.keep (fun _ => hb2.block _ (by simp))
  have HW := HW.trans (hb2.mono (by simp))
  have HSM := Lib.hid hS
  have r0 := HR.c 0
  have r1 := HR.c 1
  have r2 := HR.c 2
  have r3 := HR.c 3
  have r4 := HR.c 4
  have r5 := HR.c 5
  have r6 := HR.c 6
  have r7 := HR.c 7
  have r8 := HR.c 8
  have r9 := HR.c 9
  have r10 := HR.c 10
  have r11 := HR.c 11
  have g0 := HR.f 0
  have g1 := HR.f 1
  have g2 := HR.f 2
  have g3 := HR.f 3
  have g4 := HR.f 4
  have g5 := HR.f 5
  have g6 := HR.f 6
  have g7 := HR.f 7
  have g8 := HR.f 8
  have g9 := HR.f 9
  have g10 := HR.f 10
  have g11 := HR.f 11
  clear hb2 hS HC HS HR
  go_wp2_with fail
  exact bodyPost_ret (v := tr a0 a1 a2 a3 a4 a5 a6 a7 a8 x y z) (by simp [results, Try.results5, go_sem, r0, r1, r2, r3, r4, r5, r6, r7, r8, r9, r10, r11]) rfl ⟨a0, a1, a2, a3, a4, a5, a6, a7, a8, x, y, z, HSM.out, rfl, bset_far12 HW (Nat.le_refl _)⟩
end Go.Proofs.Ytolinlcihddkoab
