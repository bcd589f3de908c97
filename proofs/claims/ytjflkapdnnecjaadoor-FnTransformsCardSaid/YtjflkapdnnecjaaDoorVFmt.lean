/- Contracts of FormatVec, in the program and in its model. -/
import Derived.Test.YtjflkapdnnecjaaDoorProg
import Derived.Test.YtjflkapdnnecjaaDoorMem
import Derived.Test.YtjflkapdnnecjaaDoorStrS
import Derived.Test.YtjflkapdnnecjaaDoorNumP
import Derived.Test.YtjflkapdnnecjaaDoorFmt
import Derived.Test.YtjflkapdnnecjaaDoorBuilder
import Derived.Test.YtjflkapdnnecjaaDoorInts
import Derived.Test.YtjflkapdnnecjaaDoorIntS
import Derived.Test.YtjflkapdnnecjaaDoorFmts
import Derived.Test.YtjflkapdnnecjaaDoorVbox
import Derived.Test.YtjflkapdnnecjaaDoorVec
import Derived.Test.YtjflkapdnnecjaaDoorVlaw
import Derived.WalkKit
import Derived.WalkSpells
import Derived.WalkLawsBesides
import Derived.Lib.Hide
import Derived.Handy
namespace Go.Proofs.YtjflkapdnnecjaaDoor
open Go.RowKit

/-- what FormatVec writes -/
def fmtV (x y z : Int) : ByteArray := if okB x y z = true then fmtsP [x, y, z] else ⟨#[]⟩
theorem row3 (w : World) (x y z : Int) (t : TypeId) : Row I64 (w.alloc (.cells #[.int .i64 x, .int .i64 y, .int .i64 z] t)) (w.alloc (.cells #[.int .i64 x, .int .i64 y, .int .i64 z] t)).heap.size (some ⟨w.heap.size, 0, none⟩) [x, y, z] := fun _ => by
  have V := Vbox.new w x y z t
  refine ⟨w.heap.size, 0, rfl, by simp, fun k hk => ?_⟩
  match k, hk with
  | 0, _ => exact V.1
  | 1, _ => exact V.2.1
  | 2, _ => exact V.2.2.1

set_option maxHeartbeats 1000000 in
theorem formatVec_any (x y z : Int) (w : World) (hp : Pow w) :
    Calls Tryd.prog 43 #[vec x y z] w fun e w' => e = .returned (.string (fmtV x y z)) ∧ Below w.heap.size w w' := by
  have HP := Lib.hid hp
  clear hp
  have HT := One.start w x y z 24
  by_cases hk : okB x y z = true
  · have hf : fmtV x y z = fmtsP [x, y, z] := if_pos hk
    rw [hf]
    obtain ⟨fs, hfs⟩ : ∃ fs, fs = fmtsP [x, y, z] := ⟨_, rfl⟩
    rw [← hfs]
    have HK := Lib.hid hk
    have HF := Lib.hid hfs
    clear hk hf hfs
    go_enter Tryd.func43, Tryd.ntmps43
    go_wp2_with fail
    refine (isValidVec_any _ _ _ _).mono ?_
    rintro e w1 ⟨rfl, hb1⟩
    rw [HK.out]
    have HT := HT.later hb1
    obtain ⟨c0, c1, c2⟩ := HT.cells
    clear hb1
    go_wp2_with fail
    refine (formats_any _ _ [x, y, z] _ (row3 w1 x y z 3) (by simp) (HP.out.later (HT.alloc (.cells #[.int .i64 x, .int .i64 y, .int .i64 z] 3)).2.1)).mono ?_
    rintro e w2 ⟨rfl, hb2⟩
    rw [← HF.out]
    have HT := (HT.alloc _).later hb2
    clear hb2 c0 c1 c2
    go_wp2_with fail
    go_ret
    exact ⟨rfl, HT.2.1⟩
  · have hf : fmtV x y z = ⟨#[]⟩ := if_neg hk
    rw [hf]
    have HK := Lib.hid (Bool.eq_false_iff.2 hk)
    clear hk hf
    go_enter Tryd.func43, Tryd.ntmps43
    go_wp2_with fail
    refine (isValidVec_any _ _ _ _).mono ?_
    rintro e w1 ⟨rfl, hb1⟩
    rw [HK.out]
    have HT := HT.later hb1
    clear hb1
    go_wp2_with fail
    go_ret
    exact ⟨rfl, HT.2.1⟩

set_option maxHeartbeats 1000000 in
theorem sFormatVec_any (x y z : Int) (w : World) :
    Calls Tryd.prog 65 #[vec x y z] w fun e w' => e = .returned (.string (fmtV x y z)) ∧ Below w.heap.size w w' := by
  have HT := One.start w x y z 24
  by_cases hk : okB x y z = true
  · have hf : fmtV x y z = fmtsP [x, y, z] := if_pos hk
    rw [hf]
    obtain ⟨fs, hfs⟩ : ∃ fs, fs = fmtsP [x, y, z] := ⟨_, rfl⟩
    rw [← hfs]
    have HK := Lib.hid hk
    have HF := Lib.hid hfs
    clear hk hf hfs
    go_enter Tryd.func65, Tryd.ntmps65
    go_wp2_with fail
    refine (sIsValidVec_any _ _ _ _).mono ?_
    rintro e w1 ⟨rfl, hb1⟩
    rw [HK.out]
    have HT := HT.later hb1
    obtain ⟨c0, c1, c2⟩ := HT.cells
    clear hb1
    go_wp2_with fail
    refine (sFormats_any _ _ [x, y, z] _ (row3 w1 x y z 3) (by simp)).mono ?_
    rintro e w2 ⟨rfl, hb2⟩
    rw [← HF.out]
    have HT := (HT.alloc _).later hb2
    clear hb2 c0 c1 c2
    go_wp2_with fail
    go_ret
    exact ⟨rfl, HT.2.1⟩
  · have hf : fmtV x y z = ⟨#[]⟩ := if_neg hk
    rw [hf]
    have HK := Lib.hid (Bool.eq_false_iff.2 hk)
    clear hk hf
    go_enter Tryd.func65, Tryd.ntmps65
    go_wp2_with fail
    refine (sIsValidVec_any _ _ _ _).mono ?_
    rintro e w1 ⟨rfl, hb1⟩
    rw [HK.out]
    have HT := HT.later hb1
    clear hb1
    go_wp2_with fail
    go_ret
    exact ⟨rfl, HT.2.1⟩

end Go.Proofs.YtjflkapdnnecjaaDoor
