/- Contracts of FormatInt, in the program and in its model. -/
import Derived.Test.YtnjncihnhjaddabDoorProg
import Derived.Test.YtnjncihnhjaddabDoorMem
import Derived.Test.YtnjncihnhjaddabDoorStrS
import Derived.Test.YtnjncihnhjaddabDoorShelf
import Derived.Test.YtnjncihnhjaddabDoorNumP
import Derived.Test.YtnjncihnhjaddabDoorIn
import Derived.WalkKit
import Derived.WalkSpells
import Derived.WalkLawsBesides
import Derived.Lib.Hide
import Derived.WalkSmall
import Derived.Lib.LaidTab
import Derived.Lib.AppendIntMem
namespace Go.Proofs.YtnjncihnhjaddabDoor
open Go.RowKit

theorem gPow : Tryd.prog.globalNamed "internal/strconv.uint64pow10" = some 3 := by kernel_rfl
/-- the library's table of powers of ten -/
def Pow (w : World) : Prop := Lib.TabIs Tryd.prog w "internal/strconv.uint64pow10" .u64 Lib.pow10Tab
theorem pow_lt {w : World} (h : Pow w) : 3 < w.heap.size := by
  unfold Pow Lib.TabIs at h
  rcases Nat.lt_or_ge 3 w.heap.size with hl | hl
  · exact hl
  · unfold World.var? at h
    rw [gPow, Option.bind_some, Array.getElem?_eq_none hl] at h
    cases h
theorem pow_below {w0 w w' : World} {B : Nat} (h : Pow w) (hb : Below B w w') (hl : 3 < w0.heap.size) (hB : w0.heap.size ≤ B) : Pow w' := by
  unfold Pow Lib.TabIs at h ⊢
  exact var?_below hb gPow (by omega) h
theorem Pow.later {w w' : World} (h : Pow w) (hb : Below w.heap.size w w') : Pow w' := by
  unfold Pow Lib.TabIs at h ⊢
  refine var?_below hb gPow ?_ h
  rcases Nat.lt_or_ge 3 w.heap.size with hl | hl
  · exact hl
  · unfold World.var? at h
    rw [gPow, Option.bind_some, Array.getElem?_eq_none hl] at h
    cases h


set_option maxHeartbeats 400000 in
theorem format_any (n : Int) (w : World) (hp : Pow w) :
    Calls Tryd.prog 7 #[.int .i64 n] w fun e w' => e = .returned (.string (fmtP n)) ∧ Below w.heap.size w w' := by
  by_cases h0 : n < -1000000000
  · go_enter Tryd.func7, Tryd.ntmps7
    go_wp2_with fail
    go_ret
    exact ⟨ret_str (by unfold fmtP; rw [if_neg (by omega)]), Below.refl _ _⟩
  · by_cases h1 : 1000000000 < n
    · go_enter Tryd.func7, Tryd.ntmps7
      go_wp2_with fail
      go_ret
      exact ⟨ret_str (by unfold fmtP; rw [if_neg (by omega)]), Below.refl _ _⟩
    · have HP := Lib.hid hp
      clear hp
      go_enter Tryd.func7, Tryd.ntmps7
      go_wp2_with fail
      refine (Tryd.strconv_Itoa n (by omega) (by omega) _ HP.out).mono ?_
      rintro e w1 ⟨rfl, k, os, rfl⟩
      go_wp2_with fail
      go_ret
      exact ⟨ret_str (by unfold fmtP strOf; rw [if_pos (by omega)]), Lib.below_grow _ _ (Nat.le_refl _) _ _⟩

end Go.Proofs.YtnjncihnhjaddabDoor
