/- Contracts of FormatCamera, in the program and in its model. -/
import Derived.Test.YtlaghpcdaolofaaDoorProg
import Derived.Test.YtlaghpcdaolofaaDoorMem
import Derived.Test.YtlaghpcdaolofaaDoorStrS
import Derived.Test.YtlaghpcdaolofaaDoorNumP
import Derived.Test.YtlaghpcdaolofaaDoorFmt
import Derived.Test.YtlaghpcdaolofaaDoorBuilder
import Derived.Test.YtlaghpcdaolofaaDoorInts
import Derived.Test.YtlaghpcdaolofaaDoorIntS
import Derived.Test.YtlaghpcdaolofaaDoorFmts
import Derived.Test.YtlaghpcdaolofaaDoorVbox
import Derived.Test.YtlaghpcdaolofaaDoorVec
import Derived.Test.YtlaghpcdaolofaaDoorHeld
import Derived.Test.YtlaghpcdaolofaaDoorCam
import Derived.WalkKit
import Derived.WalkSpells
import Derived.WalkLawsBesides
import Derived.Lib.Hide
import Derived.Handy
namespace Go.Proofs.YtlaghpcdaolofaaDoor
open Go.RowKit

/-- a flag as a number; what FormatCamera writes -/
def e01 (e : Bool) : Int := if e = true then 1 else 0
theorem e01_inj {e e' : Bool} (h : e01 e = e01 e') : e = e' := by cases e <;> cases e' <;> simp [e01] at h ⊢
def fmtK (a b c d : Int) (e : Bool) (f g : Int) : ByteArray := if okC a b c d f g = true then fmtsP [a, b, c, d, e01 e, f, g] else ⟨#[]⟩
theorem row7 {w : World} {k : Nat} {a b c d e f g : Int} (h : Mbox w k [.int .i64 a, .int .i64 b, .int .i64 c, .int .i64 d, .int .i64 e, .int .i64 f, .int .i64 g]) : Row I64 w w.heap.size (some ⟨k, 0, none⟩) [a, b, c, d, e, f, g] := fun _ =>
  ⟨k, 0, rfl, h.lt, fun i hi => by
    rw [Nat.zero_add]
    match i, hi with
    | 0, _ => exact h.c 0
    | 1, _ => exact h.c 1
    | 2, _ => exact h.c 2
    | 3, _ => exact h.c 3
    | 4, _ => exact h.c 4
    | 5, _ => exact h.c 5
    | 6, _ => exact h.c 6
    | i + 7, hi => exact absurd hi (by simp)⟩
theorem bset7 {B k : Nat} {a w : World} {x y z p q r s : Value} (h : Below B a w) (hk : B ≤ k) : Below B a (((((((w.setCell ⟨k, 0, none⟩ x).setCell ⟨k, 1, none⟩ y).setCell ⟨k, 2, none⟩ z).setCell ⟨k, 3, none⟩ p).setCell ⟨k, 4, none⟩ q).setCell ⟨k, 5, none⟩ r).setCell ⟨k, 6, none⟩ s) :=
  ((((((h.setCell (p := ⟨k, 0, none⟩) hk x).setCell (p := ⟨k, 1, none⟩) hk y).setCell (p := ⟨k, 2, none⟩) hk z).setCell (p := ⟨k, 3, none⟩) hk p).setCell (p := ⟨k, 4, none⟩) hk q).setCell (p := ⟨k, 5, none⟩) hk r).setCell (p := ⟨k, 6, none⟩) hk s

set_option maxHeartbeats 2000000 in
theorem formatCamera_any (a b c d : Int) (e : Bool) (f g : Int) (w : World) (hp : Pow w) :
    Calls Tryd.prog 8 #[cam a b c d e f g] w fun x w' => x = .returned (.string (fmtK a b c d e f g)) ∧ Below w.heap.size w w' := by
  have HP := Lib.hid hp
  clear hp
  cases e
  · have HT : Held w (w.alloc (.cells #[.int .i64 a, .int .i64 b, .int .i64 c, .int .i64 d, .bool false, .int .i64 f, .int .i64 g] 24)) [(w.heap.size, [.int .i64 a, .int .i64 b, .int .i64 c, .int .i64 d, .bool false, .int .i64 f, .int .i64 g])] := by
      have h := (Held.nil w).new #[.int .i64 a, .int .i64 b, .int .i64 c, .int .i64 d, .bool false, .int .i64 f, .int .i64 g] 24
      simpa only [World.size_alloc] using h
    rcases hk : okC a b c d f g with _ | _
    · rw [show fmtK a b c d false f g = ⟨#[]⟩ from if_neg (by rw [hk]; decide)]
      go_enter Tryd.func8, Tryd.ntmps8
      go_wp2_with fail
      refine (isValidCamera_any _ _ _ _ _ _ _ _).mono ?_
      rintro x1 w1 ⟨rfl, hb1⟩
      rw [hk]
      have HT := HT.later hb1
      clear hb1
      go_wp2_with fail
      go_ret
      exact ⟨rfl, HT.below⟩
    · rw [show fmtK a b c d false f g = fmtsP [a, b, c, d, 0, f, g] from if_pos hk]
      obtain ⟨fs, hfs⟩ : ∃ fs, fs = fmtsP [a, b, c, d, 0, f, g] := ⟨_, rfl⟩
      rw [← hfs]
      have HF := Lib.hid hfs
      clear hfs
      go_enter Tryd.func8, Tryd.ntmps8
      go_wp2_with fail
      refine (isValidCamera_any _ _ _ _ _ _ _ _).mono ?_
      rintro x1 w1 ⟨rfl, hb1⟩
      rw [hk]
      have HT := HT.later hb1
      clear hb1
      have c0 := (HT.box 0).c 0
      have c1 := (HT.box 0).c 1
      have c2 := (HT.box 0).c 2
      have c3 := (HT.box 0).c 3
      have c4 := (HT.box 0).c 4
      have c5 := (HT.box 0).c 5
      have c6 := (HT.box 0).c 6
      go_wp2_with fail
      have HN := HT.new #[.int .i64 a, .int .i64 b, .int .i64 c, .int .i64 d, .int .i64 0, .int .i64 f, .int .i64 g] 3
      refine (formats_any _ _ [a, b, c, d, 0, f, g] _ (row7 (HN.box 0)) (by simp) (HP.out.later HN.below)).mono ?_
      rintro x2 w2 ⟨rfl, hb2⟩
      rw [← HF.out]
      have HT := HN.later hb2
      clear hb2 HN c0 c1 c2 c3 c4 c5 c6
      go_wp2_with fail
      go_ret
      exact ⟨rfl, HT.below⟩
  · have HT : Held w (w.alloc (.cells #[.int .i64 a, .int .i64 b, .int .i64 c, .int .i64 d, .bool true, .int .i64 f, .int .i64 g] 24)) [(w.heap.size, [.int .i64 a, .int .i64 b, .int .i64 c, .int .i64 d, .bool true, .int .i64 f, .int .i64 g])] := by
      have h := (Held.nil w).new #[.int .i64 a, .int .i64 b, .int .i64 c, .int .i64 d, .bool true, .int .i64 f, .int .i64 g] 24
      simpa only [World.size_alloc] using h
    rcases hk : okC a b c d f g with _ | _
    · rw [show fmtK a b c d true f g = ⟨#[]⟩ from if_neg (by rw [hk]; decide)]
      go_enter Tryd.func8, Tryd.ntmps8
      go_wp2_with fail
      refine (isValidCamera_any _ _ _ _ _ _ _ _).mono ?_
      rintro x1 w1 ⟨rfl, hb1⟩
      rw [hk]
      have HT := HT.later hb1
      clear hb1
      go_wp2_with fail
      go_ret
      exact ⟨rfl, HT.below⟩
    · rw [show fmtK a b c d true f g = fmtsP [a, b, c, d, 1, f, g] from if_pos hk]
      obtain ⟨fs, hfs⟩ : ∃ fs, fs = fmtsP [a, b, c, d, 1, f, g] := ⟨_, rfl⟩
      rw [← hfs]
      have HF := Lib.hid hfs
      clear hfs
      go_enter Tryd.func8, Tryd.ntmps8
      go_wp2_with fail
      refine (isValidCamera_any _ _ _ _ _ _ _ _).mono ?_
      rintro x1 w1 ⟨rfl, hb1⟩
      rw [hk]
      have HT := HT.later hb1
      clear hb1
      have c0 := (HT.box 0).c 0
      have c1 := (HT.box 0).c 1
      have c2 := (HT.box 0).c 2
      have c3 := (HT.box 0).c 3
      have c4 := (HT.box 0).c 4
      have c5 := (HT.box 0).c 5
      have c6 := (HT.box 0).c 6
      go_wp2_with fail
      have HN := HT.new #[.int .i64 a, .int .i64 b, .int .i64 c, .int .i64 d, .int .i64 1, .int .i64 f, .int .i64 g] 3
      refine (formats_any _ _ [a, b, c, d, 1, f, g] _ (row7 (HN.box 0)) (by simp) (HP.out.later HN.below)).mono ?_
      rintro x2 w2 ⟨rfl, hb2⟩
      rw [← HF.out]
      have HT := HN.later hb2
      clear hb2 HN c0 c1 c2 c3 c4 c5 c6
      go_wp2_with fail
      go_ret
      exact ⟨rfl, HT.below⟩

set_option maxHeartbeats 2000000 in
theorem sFormatCamera_any (a b c d : Int) (e : Bool) (f g : Int) (w : World) :
    Calls Tryd.prog 12 #[cam a b c d e f g] w fun x w' => x = .returned (.string (fmtK a b c d e f g)) ∧ Below w.heap.size w w' := by
  cases e
  · have HT : Held w (w.alloc (.cells #[.int .i64 a, .int .i64 b, .int .i64 c, .int .i64 d, .bool false, .int .i64 f, .int .i64 g] 24)) [(w.heap.size, [.int .i64 a, .int .i64 b, .int .i64 c, .int .i64 d, .bool false, .int .i64 f, .int .i64 g])] := by
      have h := (Held.nil w).new #[.int .i64 a, .int .i64 b, .int .i64 c, .int .i64 d, .bool false, .int .i64 f, .int .i64 g] 24
      simpa only [World.size_alloc] using h
    rcases hk : okC a b c d f g with _ | _
    · rw [show fmtK a b c d false f g = ⟨#[]⟩ from if_neg (by rw [hk]; decide)]
      go_enter Tryd.func12, Tryd.ntmps12
      go_wp2_with fail
      refine (sIsValidCamera_any _ _ _ _ _ _ _ _).mono ?_
      rintro x1 w1 ⟨rfl, hb1⟩
      rw [hk]
      have HT := HT.later hb1
      clear hb1
      go_wp2_with fail
      go_ret
      exact ⟨rfl, HT.below⟩
    · rw [show fmtK a b c d false f g = fmtsP [a, b, c, d, 0, f, g] from if_pos hk]
      obtain ⟨fs, hfs⟩ : ∃ fs, fs = fmtsP [a, b, c, d, 0, f, g] := ⟨_, rfl⟩
      rw [← hfs]
      have HF := Lib.hid hfs
      clear hfs
      go_enter Tryd.func12, Tryd.ntmps12
      go_wp2_with fail
      refine (sIsValidCamera_any _ _ _ _ _ _ _ _).mono ?_
      rintro x1 w1 ⟨rfl, hb1⟩
      rw [hk]
      have HT := HT.later hb1
      clear hb1
      have c0 := (HT.box 0).c 0
      have c1 := (HT.box 0).c 1
      have c2 := (HT.box 0).c 2
      have c3 := (HT.box 0).c 3
      have c4 := (HT.box 0).c 4
      have c5 := (HT.box 0).c 5
      have c6 := (HT.box 0).c 6
      go_wp2_with fail
      have HN := HT.new #[.int .i64 a, .int .i64 b, .int .i64 c, .int .i64 d, .int .i64 0, .int .i64 f, .int .i64 g] 3
      refine (sFormats_any _ _ [a, b, c, d, 0, f, g] _ (row7 (HN.box 0)) (by simp)).mono ?_
      rintro x2 w2 ⟨rfl, hb2⟩
      rw [← HF.out]
      have HT := HN.later hb2
      clear hb2 HN c0 c1 c2 c3 c4 c5 c6
      go_wp2_with fail
      go_ret
      exact ⟨rfl, HT.below⟩
  · have HT : Held w (w.alloc (.cells #[.int .i64 a, .int .i64 b, .int .i64 c, .int .i64 d, .bool true, .int .i64 f, .int .i64 g] 24)) [(w.heap.size, [.int .i64 a, .int .i64 b, .int .i64 c, .int .i64 d, .bool true, .int .i64 f, .int .i64 g])] := by
      have h := (Held.nil w).new #[.int .i64 a, .int .i64 b, .int .i64 c, .int .i64 d, .bool true, .int .i64 f, .int .i64 g] 24
      simpa only [World.size_alloc] using h
    rcases hk : okC a b c d f g with _ | _
    · rw [show fmtK a b c d true f g = ⟨#[]⟩ from if_neg (by rw [hk]; decide)]
      go_enter Tryd.func12, Tryd.ntmps12
      go_wp2_with fail
      refine (sIsValidCamera_any _ _ _ _ _ _ _ _).mono ?_
      rintro x1 w1 ⟨rfl, hb1⟩
      rw [hk]
      have HT := HT.later hb1
      clear hb1
      go_wp2_with fail
      go_ret
      exact ⟨rfl, HT.below⟩
    · rw [show fmtK a b c d true f g = fmtsP [a, b, c, d, 1, f, g] from if_pos hk]
      obtain ⟨fs, hfs⟩ : ∃ fs, fs = fmtsP [a, b, c, d, 1, f, g] := ⟨_, rfl⟩
      rw [← hfs]
      have HF := Lib.hid hfs
      clear hfs
      go_enter Tryd.func12, Tryd.ntmps12
      go_wp2_with fail
      refine (sIsValidCamera_any _ _ _ _ _ _ _ _).mono ?_
      rintro x1 w1 ⟨rfl, hb1⟩
      rw [hk]
      have HT := HT.later hb1
      clear hb1
      have c0 := (HT.box 0).c 0
      have c1 := (HT.box 0).c 1
      have c2 := (HT.box 0).c 2
      have c3 := (HT.box 0).c 3
      have c4 := (HT.box 0).c 4
      have c5 := (HT.box 0).c 5
      have c6 := (HT.box 0).c 6
      go_wp2_with fail
      have HN := HT.new #[.int .i64 a, .int .i64 b, .int .i64 c, .int .i64 d, .int .i64 1, .int .i64 f, .int .i64 g] 3
      refine (sFormats_any _ _ [a, b, c, d, 1, f, g] _ (row7 (HN.box 0)) (by simp)).mono ?_
      rintro x2 w2 ⟨rfl, hb2⟩
      rw [← HF.out]
      have HT := HN.later hb2
      clear hb2 HN c0 c1 c2 c3 c4 c5 c6
      go_wp2_with fail
      go_ret
      exact ⟨rfl, HT.below⟩
end Go.Proofs.YtlaghpcdaolofaaDoor
