/- Contracts of l01Nums and MakeInts: some small numbers in a slice of the call's own. -/
import Derived.Test.YtnjncihnhjaddabDoorProg
import Derived.Test.YtnjncihnhjaddabDoorInts
import Derived.Test.YtnjncihnhjaddabDoorMem
import Derived.Test.YtnjncihnhjaddabDoorIntS
import Derived.Test.YtnjncihnhjaddabDoorCur
import Derived.WalkKit
import Derived.WalkSpells
import Derived.WalkLawsBesides
import Derived.Lib.Hide
namespace Go.Proofs.YtnjncihnhjaddabDoor
open Go.RowKit

/-- a slice of the call's own that holds numbers in range -/
def IntsOut (m : Nat) (lo hi : Int) (B : Nat) (w : World) (e : Ending) (w' : World) : Prop :=
  ∃ (A : Option Addr) (c : Nat) (xs : List Int), e = .returned (.slice A xs.length c) ∧ w'.ownsRow w.heap.size 3 1 (.slice A xs.length c) xs.length (xs.map I64) ∧ xs.length ≤ m ∧ (∀ x ∈ xs, lo ≤ x ∧ x ≤ hi) ∧ Below B w w'
set_option maxHeartbeats 1000000 in
theorem nums_any (B g : Nat) (w : World) (hC : Cur w B g) (hB : B ≤ w.heap.size) :
    Calls Tryd.prog 17 #[.pointer (some ⟨g, 0, none⟩)] w (IntsOut 4 (-20) 69 B w) := by
  obtain ⟨i0, hi, hz0, hz1, hz2⟩ := info_parts infoInt
  have hge := hC.ge
  go_enter Tryd.func17, Tryd.ntmps17
  go_wp2_with fail
  refine (below_any B g 5 _ (hC.keep (gb_of_below ((Below.refl _ _).alloc (Nat.le_refl _) _) (row := none)) (fun r h => by cases h) (by simp)) (by omega) (by omega)).mono ?_
  rintro e w1 ⟨x, x0, x1, rfl, hC1, hg1⟩
  have ho1 : w1.ownsRow w.heap.size 3 1 (.slice (some ⟨w.heap.size, 0, none⟩) 0 0) 0 (([] : List Int).map I64) :=
    (World.ownsRow_made w #[] 0 (Nat.le_refl _) (by unfold maxLen; omega) rfl).kept hg1 (.inr (by simp [Value.ownBlock]; have := hC.lt; omega))
  have hb1 : Below B w w1 := ((Below.refl B w).alloc hB _).grown hg1 (by simp; omega) (fun k h => by injection h with h; omega)
  have hs1 : w.heap.size ≤ w1.heap.size := by have := hg1.size; simp at this; omega
  have HC := Lib.hid hC1
  have HO := Lib.hid ho1
  have HB := Lib.hid hb1
  clear hC1 ho1 hb1 hg1
  go_wp2_with fail
  go_loopw [3, 4] (fun v i wr => ∃ (k : Nat) (xs : List Int), i = .int .i64 k ∧ k + xs.length ≤ 4 ∧ wr.ownsRow w.heap.size 3 1 v xs.length (xs.map I64) ∧ (∀ x ∈ xs, -20 ≤ x ∧ x ≤ 69) ∧ Cur wr B g ∧ Below B w wr ∧ w.heap.size ≤ wr.heap.size) (fun _ i _ => (intOf i).toNat)
  case atStart => exact ⟨x.toNat, [], by rw [Int.toNat_of_nonneg x0], by simp; omega, HO.out, by simp, HC.out, HB.out, hs1⟩
  case round =>
    obtain ⟨k, xs, rfl, hk, hown, hxs, hC2, hb2, hs2⟩ := hrel
    have hgl := hC.lt
    clear HC HO HB hC hs1
    have HXS := Lib.hid hxs
    have HB := Lib.hid hb2
    have HO := Lib.hid hown
    clear hxs hb2 hown
    by_cases hlt : 0 < (k : Int)
    · go_wp2_with fail
      refine (below_any B g 90 _ hC2 (by omega) (by omega)).mono ?_
      rintro e w2 ⟨y, y0, y1, rfl, hC3, hg3⟩
      have HO3 := Lib.hid (own_keep HO.out hg3 hgl)
      have HB3 := Lib.hid (HB.out.grown hg3 (Nat.le_trans hB HB.out.size) (fun k h => by injection h with h; omega))
      have HC3 := Lib.hid hC3
      have hs3 : w.heap.size ≤ w2.heap.size := Nat.le_trans hs2 hg3.size
      clear hC3 hg3 hC2
      go_wp2_with (at_builtin; refine wpList_app1 w2 rfl _ _ 24 rfl w.heap.size 3 (.int .i64 0) 8 Tryd.underlying24 infoInt rfl _ _ _ (by rfl) HO3.out _ (by rfl) (by rfl) (by unfold maxLen; omega) (by omega) hs3 ?_)
      intro v' w4 ho4 hg4
      have HO4 := Lib.hid ho4
      have HC4 := Lib.hid (HC3.out.keep hg4 (fun r h => by have := own_block HO3.out r h; omega) (fun h => by have := own_block HO3.out g h; omega))
      have HB4 := Lib.hid (HB3.out.grown hg4 (Nat.le_trans hB HB3.out.size) (fun r h => by have := own_block HO3.out r h; omega))
      have hs4 : w.heap.size ≤ w4.heap.size := Nat.le_trans hs3 hg4.size
      clear ho4 hg4
      go_wp2_with fail
      go_roundw
      case rel => exact ⟨k - 1, xs ++ [y - 20], by simp; omega, by simp; omega, by simpa using HO4.out, by
        intro x hx
        rcases List.mem_append.1 hx with h | h
        · exact HXS.out x h
        · simp at h; omega, HC4.out, HB4.out, hs4⟩
      case measure => simp [intOf]; omega
    · go_wp2_with fail
      go_ret
      obtain ⟨A, c, rfl⟩ := own_shape HO.out
      exact ⟨A, c, xs, rfl, HO.out, by omega, HXS.out, HB.out⟩

set_option maxHeartbeats 1000000 in
theorem makeInts_any (A : Option Addr) (c : Nat) (bs : List Int) (w : World) (hR : Row U8 w w.heap.size A bs) (h8 : ∀ x ∈ bs, 0 ≤ x ∧ x ≤ 255) (hl : bs.length ≤ 1048576) :
    Calls Tryd.prog 5 #[.slice A bs.length c] w (IntsOut 4 (-20) 69 w.heap.size w) := by
  go_enter Tryd.func5, Tryd.ntmps5
  go_wp2_with fail
  refine (new_any _ _ bs _ hR h8 hl).mono ?_
  rintro e w1 ⟨g, rfl, hC, hb⟩
  have HB := Lib.hid hb
  clear hR h8 hb
  go_wp2_with fail
  refine (nums_any _ g _ hC HB.out.size).mono ?_
  rintro e w2 ⟨A2, c2, xs, rfl, ho, hl2, hxs, hb2⟩
  have HB2 := Lib.hid (HB.out.trans hb2)
  have HO := Lib.hid ho
  have HX := Lib.hid hxs
  have hs := HB.out.size
  clear hb2 ho hxs
  go_wp2_with fail
  go_ret
  exact ⟨A2, c2, xs, rfl, own_base HO.out hs, hl2, HX.out, HB2.out⟩

end Go.Proofs.YtnjncihnhjaddabDoor
