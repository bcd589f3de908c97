/- Contracts of FormatSample, in the program and in its model. -/
import Derived.Test.YtbgpcgimmiinbaaDoorProg
import Derived.Test.YtbgpcgimmiinbaaDoorMem
import Derived.Test.YtbgpcgimmiinbaaDoorStrS
import Derived.Test.YtbgpcgimmiinbaaDoorNumP
import Derived.Test.YtbgpcgimmiinbaaDoorFmt
import Derived.Test.YtbgpcgimmiinbaaDoorBuilder
import Derived.Test.YtbgpcgimmiinbaaDoorInts
import Derived.Test.YtbgpcgimmiinbaaDoorIntS
import Derived.Test.YtbgpcgimmiinbaaDoorFmts
import Derived.Test.YtbgpcgimmiinbaaDoorVbox
import Derived.Test.YtbgpcgimmiinbaaDoorFlat
import Derived.Test.YtbgpcgimmiinbaaDoorRowC
import Derived.Test.YtbgpcgimmiinbaaDoorHeld
import Derived.Test.YtbgpcgimmiinbaaDoorSmp
import Derived.WalkKit
import Derived.WalkSpells
import Derived.WalkLawsBesides
import Derived.Lib.Hide
import Derived.Handy
import Derived.Deep.RegionHeld3
import Derived.Deep.QuietTactic
import Derived.BigQuiet
import Derived.Deep.DeepCutAuto
namespace Go.Proofs.YtbgpcgimmiinbaaDoor
open Go.RowKit

theorem row5i (w : World) (a b c d e : Int) (t : TypeId) : Row I64 (w.alloc (.cells #[.int .i64 a, .int .i64 b, .int .i64 c, .int .i64 d, .int .i64 e] t)) (w.alloc (.cells #[.int .i64 a, .int .i64 b, .int .i64 c, .int .i64 d, .int .i64 e] t)).heap.size (some ⟨w.heap.size, 0, none⟩) [a, b, c, d, e] := fun _ => by
  have V := Mbox.new w #[.int .i64 a, .int .i64 b, .int .i64 c, .int .i64 d, .int .i64 e] t
  refine ⟨w.heap.size, 0, rfl, by simp, fun k hk => ?_⟩
  match k, hk with
  | 0, _ => exact V.c 0
  | 1, _ => exact V.c 1
  | 2, _ => exact V.c 2
  | 3, _ => exact V.c 3
  | 4, _ => exact V.c 4

set_option maxHeartbeats 2000000 in
theorem formatSample_any (a b c d e : Int) (w : World) (hp : Pow w) :
    Calls Tryd.prog 6 #[smp a b c d e] w fun x w' => x = .returned (.string (fmtsP [a, b, c, d, e])) ∧ Below w.heap.size w w' := by
  obtain ⟨fs, hfs⟩ : ∃ fs, fs = fmtsP [a, b, c, d, e] := ⟨_, rfl⟩
  rw [← hfs]
  have HF := Lib.hid hfs
  clear hfs
  have HP := Lib.hid hp
  clear hp
  have HT : Held w (w.alloc (.cells #[.int .i64 a, .int .i64 b, .int .i64 c, .int .i64 d, .int .i64 e] 25)) [(w.heap.size, [.int .i64 a, .int .i64 b, .int .i64 c, .int .i64 d, .int .i64 e])] := by
    have h := (Held.nil w).new #[.int .i64 a, .int .i64 b, .int .i64 c, .int .i64 d, .int .i64 e] 25
    simpa only [World.size_alloc] using h
  go_enter Tryd.func6, Tryd.ntmps6
  go_upto_region 1 with fail
  obtain ⟨W0, hW0⟩ : ∃ W, W = w.alloc (.cells #[.int .i64 a, .int .i64 b, .int .i64 c, .int .i64 d, .int .i64 e] 25) := ⟨_, rfl⟩
  rw [← hW0] at HT ⊢
  clear hW0
  have c0 := (HT.box 0).c 0
  have c1 := (HT.box 0).c 1
  have c2 := (HT.box 0).c 2
  have c3 := (HT.box 0).c 3
  have c4 := (HT.box 0).c 4
  go_wp2_with fail
  refine (formats_any _ _ [a, b, c, d, e] _ (row5i W0 a b c d e 3) (by simp) (HP.out.later (HT.alloc _).below)).mono ?_
  rintro x w2 ⟨rfl, hb2⟩
  rw [← HF.out]
  have HT := (HT.alloc (.cells #[.int .i64 a, .int .i64 b, .int .i64 c, .int .i64 d, .int .i64 e] 3)).later hb2
  clear hb2 c0 c1 c2 c3 c4
  go_wp2_with fail
  go_ret
  exact ⟨rfl, HT.below⟩

set_option maxHeartbeats 2000000 in
theorem sFormatSample_any (a b c d e : Int) (w : World) :
    Calls Tryd.prog 4 #[smp a b c d e] w fun x w' => x = .returned (.string (fmtsP [a, b, c, d, e])) ∧ Below w.heap.size w w' := by
  obtain ⟨fs, hfs⟩ : ∃ fs, fs = fmtsP [a, b, c, d, e] := ⟨_, rfl⟩
  rw [← hfs]
  have HF := Lib.hid hfs
  clear hfs
  have HT : Held w (w.alloc (.cells #[.int .i64 a, .int .i64 b, .int .i64 c, .int .i64 d, .int .i64 e] 25)) [(w.heap.size, [.int .i64 a, .int .i64 b, .int .i64 c, .int .i64 d, .int .i64 e])] := by
    have h := (Held.nil w).new #[.int .i64 a, .int .i64 b, .int .i64 c, .int .i64 d, .int .i64 e] 25
    simpa only [World.size_alloc] using h
  go_enter Tryd.func4, Tryd.ntmps4
  go_upto_region 1 with fail
  obtain ⟨W0, hW0⟩ : ∃ W, W = w.alloc (.cells #[.int .i64 a, .int .i64 b, .int .i64 c, .int .i64 d, .int .i64 e] 25) := ⟨_, rfl⟩
  rw [← hW0] at HT ⊢
  clear hW0
  have c0 := (HT.box 0).c 0
  have c1 := (HT.box 0).c 1
  have c2 := (HT.box 0).c 2
  have c3 := (HT.box 0).c 3
  have c4 := (HT.box 0).c 4
  go_wp2_with fail
  refine (sFormats_any _ _ [a, b, c, d, e] _ (row5i W0 a b c d e 3) (by simp)).mono ?_
  rintro x w2 ⟨rfl, hb2⟩
  rw [← HF.out]
  have HT := (HT.alloc (.cells #[.int .i64 a, .int .i64 b, .int .i64 c, .int .i64 d, .int .i64 e] 3)).later hb2
  clear hb2 c0 c1 c2 c3 c4
  go_wp2_with fail
  go_ret
  exact ⟨rfl, HT.below⟩
end Go.Proofs.YtbgpcgimmiinbaaDoor
