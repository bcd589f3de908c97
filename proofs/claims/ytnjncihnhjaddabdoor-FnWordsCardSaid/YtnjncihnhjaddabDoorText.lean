/- Contracts of l01Str and MakeText: a short text; nothing that was there has turned. -/
import Derived.Test.YtnjncihnhjaddabDoorProg
import Derived.Test.YtnjncihnhjaddabDoorMem
import Derived.Test.YtnjncihnhjaddabDoorStrS
import Derived.Test.YtnjncihnhjaddabDoorInts
import Derived.Test.YtnjncihnhjaddabDoorIntS
import Derived.Test.YtnjncihnhjaddabDoorCur
import Derived.WalkKit
import Derived.WalkSpells
import Derived.WalkLawsBesides
import Derived.Lib.Hide
namespace Go.Proofs.YtnjncihnhjaddabDoor
open Go.RowKit

def StrPick (m B g : Nat) (w : World) (e : Ending) (w' : World) : Prop := ∃ s : ByteArray, s.size ≤ m ∧ e = .returned (.string s) ∧ Cur w' B g ∧ w.grownBy w' (some g)
set_option maxHeartbeats 1000000 in
theorem str_any (B g m : Nat) (A : Option Addr) (c : Nat) (xs : List ByteArray) (w : World) (hC : Cur w B g) (hR : Row Str w w.heap.size A xs) (hA : ∀ b o, A = some ⟨b, o, none⟩ → b ≠ g) (h0 : 0 < xs.length) (hl : xs.length ≤ 1000) (hm : ∀ x ∈ xs, x.size ≤ m) :
    Calls Tryd.prog 23 #[.pointer (some ⟨g, 0, none⟩), .slice A xs.length c] w (StrPick m B g w) := by
  go_enter Tryd.func23, Tryd.ntmps23
  go_wp2_with fail
  refine (below_any B g _ _ hC (by omega) (by omega)).mono ?_
  rintro e w1 ⟨x, x0, x1, rfl, hC1, hg1⟩
  obtain ⟨k, rfl⟩ : ∃ k : Nat, x = k := ⟨x.toNat, by omega⟩
  have hk : k < xs.length := by omega
  obtain ⟨b, o, rfl, hbl, hc⟩ := hR.at hk
  have hbg := hA b o rfl
  have hc := (World.cell?_of_block (w' := w1) (hg1.block b hbl (fun e => hbg (by injection e)))).trans hc
  have hsz := hm xs[k] (List.getElem_mem _)
  obtain ⟨s, hs⟩ : ∃ s, s = xs[k] := ⟨_, rfl⟩
  rw [← hs] at hc hsz
  have HC := Lib.hid hC1
  have HG := Lib.hid hg1
  have hkI : (k : Int) < (xs.length : Int) := by omega
  clear hs hR hA hm hC hC1 hg1
  go_wp2_with fail
  go_ret
  exact ⟨s, hsz, rfl, HC.out, HG.out⟩

def TextOut (m : Nat) (w : World) (e : Ending) (w' : World) : Prop := ∃ s : ByteArray, s.size ≤ m ∧ e = .returned (.string s) ∧ Below w.heap.size w w'
def five : List ByteArray := [⟨#[97]⟩, ⟨#[98, 99]⟩, ⟨#[32]⟩, ⟨#[44]⟩, ⟨#[120, 49]⟩]
theorem five_row (w : World) (T : TypeId) : Row Str (w.alloc (.cells #[.string ⟨#[97]⟩, .string ⟨#[98, 99]⟩, .string ⟨#[32]⟩, .string ⟨#[44]⟩, .string ⟨#[120, 49]⟩] T)) (w.alloc (.cells #[.string ⟨#[97]⟩, .string ⟨#[98, 99]⟩, .string ⟨#[32]⟩, .string ⟨#[44]⟩, .string ⟨#[120, 49]⟩] T)).heap.size (some ⟨w.heap.size, 0, none⟩) five := fun _ => by
  refine ⟨w.heap.size, 0, rfl, by simp, fun k hk => ?_⟩
  rw [cell_of_row _ _ _ _ T (0, 0) (heap_alloc_new w _)]
  have hk' : k < 5 := hk
  rcases k with _ | _ | _ | _ | _ | k
  all_goals first | rfl | omega
set_option maxHeartbeats 1000000 in
theorem makeText_any (A : Option Addr) (c : Nat) (bs : List Int) (w : World) (hR : Row U8 w w.heap.size A bs) (h8 : ∀ x ∈ bs, 0 ≤ x ∧ x ≤ 255) (hl : bs.length ≤ 1048576) :
    Calls Tryd.prog 10 #[.slice A bs.length c] w (TextOut 16 w) := by
  go_enter Tryd.func10, Tryd.ntmps10
  go_wp2_with fail
  refine (new_any _ _ bs _ hR h8 hl).mono ?_
  rintro e w1 ⟨g, rfl, hC, hb⟩
  have HB := Lib.hid hb
  clear hR h8 hb
  go_wp2_with fail
  refine (below_any _ g 8 _ hC (by omega) (by omega)).mono ?_
  rintro e w2 ⟨x, x0, x1, rfl, hC2, hg2⟩
  have HC2 := Lib.hid hC2
  have HB2 := Lib.hid (HB.out.grown hg2 HB.out.size (fun k h => by injection h with h; have := hC.ge; omega))
  clear hC hC2 hg2 HB
  go_wp2_with fail
  go_loopw [4, 5] (fun v i wr => ∃ (k : Nat) (s : ByteArray), i = .int .i64 k ∧ v = .string s ∧ s.size + 2 * k ≤ 14 ∧ Cur wr w.heap.size g ∧ Below w.heap.size w wr) (fun _ i _ => (intOf i).toNat)
  case atStart => exact ⟨x.toNat, ⟨#[]⟩, by rw [Int.toNat_of_nonneg x0], rfl, by show 0 + 2 * x.toNat ≤ 14; omega, HC2.out, HB2.out⟩
  case round =>
    obtain ⟨k, s, rfl, rfl, hsz, hC, hb⟩ := hrel
    clear HC2 HB2
    have HC := Lib.hid hC
    have HB := Lib.hid hb
    clear hC hb
    by_cases hlt : 0 < (k : Int)
    · go_wp2_with fail
      refine (str_any w.heap.size g 2 _ _ five _ (HC.out.keep (gb_of_below ((Below.refl _ _).alloc (Nat.le_refl _) _) (row := none)) (fun r h => by cases h) (by simp)) (five_row _ _) (fun b o h => by injection h with h; injection h with h; have := HC.out.lt; omega) (by decide) (by decide) (by decide)).mono ?_
      rintro e w3 ⟨p, hp, rfl, hC3, hg3⟩
      have HC3 := Lib.hid hC3
      have HB3 := Lib.hid ((HB.out.alloc HB.out.size (.cells #[.string ⟨#[97]⟩, .string ⟨#[98, 99]⟩, .string ⟨#[32]⟩, .string ⟨#[44]⟩, .string ⟨#[120, 49]⟩] 9)).grown hg3 (by have := HB.out.size; simp; omega) (fun r h => by injection h with h; have := HC.out.ge; omega))
      have happ : (s ++ p).size = s.size + p.size := by simp
      have hsum : s.size + p.size ≤ 16 := by omega
      have HAP := Lib.hid happ
      clear hC3 hg3 happ
      go_wp2_with fail
      go_roundw
      case rel => exact ⟨k - 1, s ++ p, by simp; omega, rfl, by rw [HAP.out]; omega, HC3.out, HB3.out⟩
      case measure => simp [intOf]; omega
    · go_wp2_with fail
      go_ret
      exact ⟨s, by omega, rfl, HB.out⟩

end Go.Proofs.YtnjncihnhjaddabDoor
