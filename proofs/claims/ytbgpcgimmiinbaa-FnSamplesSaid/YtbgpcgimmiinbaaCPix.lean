/- Contracts of PixelAt: the program and its model. -/
import Derived.Test.YtbgpcgimmiinbaaProg
import Derived.Test.YtbgpcgimmiinbaaInts
import Derived.Test.YtbgpcgimmiinbaaVbox
import Derived.Test.YtbgpcgimmiinbaaVec
import Derived.Test.YtbgpcgimmiinbaaHeld
import Derived.Test.YtbgpcgimmiinbaaCam
import Derived.WalkKit
import Derived.WalkSpells
import Derived.WalkLawsBesides
import Derived.Lib.Hide
import Derived.Deep.RegionHeld3
import Derived.Deep.QuietTactic
import Derived.BigQuiet
import Derived.Handy
import Derived.Deep.DeepCutAuto
namespace Go.Proofs.Ytbgpcgimmiinbaa
open Go.RowKit

/-- a position lies in the image -/
def pxB (a b c d f g x y : Int) : Bool := okC a b c d f g && (inC 0 (a * 16 - 1) x && inC 0 (b * 16 - 1) y)
def pxV (k : Bool) (x : Int) : Int := if k = true then fdivP x 16 else 0
def PxOut (k : Bool) (x y : Int) (w : World) (e : Ending) (w' : World) : Prop := e = .returned (.tuple #[.int .i64 (pxV k x), .int .i64 (pxV k y), .bool k]) ∧ Below w.heap.size w w'
theorem inC_div (a x : Int) : inC 0 (a - 1) (fdivP x 16) = inC 0 (a * 16 - 1) x := by
  rw [Bool.eq_iff_iff, inC_iff, inC_iff]
  unfold fdivP
  rw [if_neg (by omega)]
  omega
theorem ret_px {x y : Int} {k k' : Bool} (h : k = k') : Ending.returned (.tuple #[.int .i64 (pxV k x), .int .i64 (pxV k y), .bool k]) = .returned (.tuple #[.int .i64 (pxV k' x), .int .i64 (pxV k' y), .bool k']) := by rw [h]

set_option maxHeartbeats 4000000 in
theorem pixelAt_any (a b c d : Int) (e : Bool) (f g : Int) (x y : Int) (hx0 : -9223372036854775808 ≤ x) (hx1 : x ≤ 9223372036854775807) (hy0 : -9223372036854775808 ≤ y) (hy1 : y ≤ 9223372036854775807) (w : World) :
    Calls Try.prog 12 #[cam a b c d e f g, .int .i64 x, .int .i64 y] w (PxOut (pxB a b c d f g x y) x y w) := by
  have HT : Held w (w.alloc (.cells #[.int .i64 a, .int .i64 b, .int .i64 c, .int .i64 d, .bool e, .int .i64 f, .int .i64 g] 24)) [(w.heap.size, [.int .i64 a, .int .i64 b, .int .i64 c, .int .i64 d, .bool e, .int .i64 f, .int .i64 g])] := by
    have h := (Held.nil w).new #[.int .i64 a, .int .i64 b, .int .i64 c, .int .i64 d, .bool e, .int .i64 f, .int .i64 g] 24
    simpa only [World.size_alloc] using h
  rcases hk : okC a b c d f g with _ | _
  · go_enter Try.func12, Try.ntmps12
    go_wp2_with fail
    refine (isValidCamera_any _ _ _ _ _ _ _ _).mono ?_
    rintro x1 w1 ⟨rfl, hb1⟩
    rw [hk]
    have HT := HT.later hb1
    clear hb1
    go_wp2_with fail
    exact bodyPost_ret (v := .tuple #[.int .i64 (0), .int .i64 (0), .bool false]) (by simp [results, Try.results12, go_sem]) rfl ⟨ret_px (k := false) (x := x) (y := y) (by unfold pxB; rw [hk]; rfl), HT.below⟩
  obtain ⟨⟨⟨ha0, ha1⟩, hb0, hb1_⟩, ⟨⟨hc0, hc1⟩, hd0, hd1⟩, ⟨hf0, hf1⟩, hg0, hg1⟩ := (okC_iff _ _ _ _ _ _).1 hk
  rcases hx : inC 0 (a * 16 - 1) x with _ | _
  · go_enter Try.func12, Try.ntmps12
    go_wp2_with fail
    refine (isValidCamera_any _ _ _ _ _ _ _ _).mono ?_
    rintro x1 w1 ⟨rfl, hb1⟩
    rw [hk]
    have HT := HT.later hb1
    clear hb1
    have c0 := (HT.box 0).c 0
    have c1 := (HT.box 0).c 1
    have c2 := (HT.box 0).c 2
    have c3 := (HT.box 0).c 3
    have c4 := (HT.box 0).c 4
    have c5 := (HT.box 0).c 5
    have c6 := (HT.box 0).c 6
    go_wp2_with fail
    refine (width_any _ _ _ _ _ _ _ ha0 ha1 _).mono ?_
    rintro x1 w1 ⟨rfl, hb1⟩
    have HT := HT.later hb1
    clear hb1 c0 c1 c2 c3 c4 c5 c6
    go_wp2_with fail
    refine (isWithin_any _ _ _ _).mono ?_
    rintro x1 w1 ⟨rfl, rfl⟩
    rw [hx]
    go_wp2_with fail
    exact bodyPost_ret (v := .tuple #[.int .i64 (0), .int .i64 (0), .bool false]) (by simp [results, Try.results12, go_sem]) rfl ⟨ret_px (k := false) (x := x) (y := y) (by unfold pxB; rw [hk, hx]; rfl), HT.below⟩
  rcases hy : inC 0 (b * 16 - 1) y with _ | _
  · go_enter Try.func12, Try.ntmps12
    go_wp2_with fail
    refine (isValidCamera_any _ _ _ _ _ _ _ _).mono ?_
    rintro x1 w1 ⟨rfl, hb1⟩
    rw [hk]
    have HT := HT.later hb1
    clear hb1
    have c0 := (HT.box 0).c 0
    have c1 := (HT.box 0).c 1
    have c2 := (HT.box 0).c 2
    have c3 := (HT.box 0).c 3
    have c4 := (HT.box 0).c 4
    have c5 := (HT.box 0).c 5
    have c6 := (HT.box 0).c 6
    go_wp2_with fail
    refine (width_any _ _ _ _ _ _ _ ha0 ha1 _).mono ?_
    rintro x1 w1 ⟨rfl, hb1⟩
    have HT := HT.later hb1
    clear hb1 c0 c1 c2 c3 c4 c5 c6
    go_wp2_with fail
    refine (isWithin_any _ _ _ _).mono ?_
    rintro x1 w1 ⟨rfl, rfl⟩
    rw [hx]
    have c0 := (HT.box 0).c 0
    have c1 := (HT.box 0).c 1
    have c2 := (HT.box 0).c 2
    have c3 := (HT.box 0).c 3
    have c4 := (HT.box 0).c 4
    have c5 := (HT.box 0).c 5
    have c6 := (HT.box 0).c 6
    go_wp2_with fail
    refine (height_any _ _ _ _ _ _ _ hb0 hb1_ _).mono ?_
    rintro x1 w1 ⟨rfl, hb1⟩
    have HT := HT.later hb1
    clear hb1 c0 c1 c2 c3 c4 c5 c6
    go_wp2_with fail
    refine (isWithin_any _ _ _ _).mono ?_
    rintro x1 w1 ⟨rfl, rfl⟩
    rw [hy]
    go_wp2_with fail
    exact bodyPost_ret (v := .tuple #[.int .i64 (0), .int .i64 (0), .bool false]) (by simp [results, Try.results12, go_sem]) rfl ⟨ret_px (k := false) (x := x) (y := y) (by unfold pxB; rw [hk, hx, hy]; rfl), HT.below⟩
  · go_enter Try.func12, Try.ntmps12
    go_wp2_with fail
    refine (isValidCamera_any _ _ _ _ _ _ _ _).mono ?_
    rintro x1 w1 ⟨rfl, hb1⟩
    rw [hk]
    have HT := HT.later hb1
    clear hb1
    have c0 := (HT.box 0).c 0
    have c1 := (HT.box 0).c 1
    have c2 := (HT.box 0).c 2
    have c3 := (HT.box 0).c 3
    have c4 := (HT.box 0).c 4
    have c5 := (HT.box 0).c 5
    have c6 := (HT.box 0).c 6
    go_wp2_with fail
    refine (width_any _ _ _ _ _ _ _ ha0 ha1 _).mono ?_
    rintro x1 w1 ⟨rfl, hb1⟩
    have HT := HT.later hb1
    clear hb1 c0 c1 c2 c3 c4 c5 c6
    go_wp2_with fail
    refine (isWithin_any _ _ _ _).mono ?_
    rintro x1 w1 ⟨rfl, rfl⟩
    rw [hx]
    have c0 := (HT.box 0).c 0
    have c1 := (HT.box 0).c 1
    have c2 := (HT.box 0).c 2
    have c3 := (HT.box 0).c 3
    have c4 := (HT.box 0).c 4
    have c5 := (HT.box 0).c 5
    have c6 := (HT.box 0).c 6
    go_wp2_with fail
    refine (height_any _ _ _ _ _ _ _ hb0 hb1_ _).mono ?_
    rintro x1 w1 ⟨rfl, hb1⟩
    have HT := HT.later hb1
    clear hb1 c0 c1 c2 c3 c4 c5 c6
    go_wp2_with fail
    refine (isWithin_any _ _ _ _).mono ?_
    rintro x1 w1 ⟨rfl, rfl⟩
    rw [hy]
    go_wp2_with fail
    refine (floorDiv_any _ _ _ (by omega) (by omega)).mono ?_
    rintro x1 w1 ⟨rfl, rfl⟩
    go_wp2_with fail
    refine (floorDiv_any _ _ _ (by omega) (by omega)).mono ?_
    rintro x1 w1 ⟨rfl, rfl⟩
    go_wp2_with fail
    exact bodyPost_ret (v := .tuple #[.int .i64 (fdivP x 16), .int .i64 (fdivP y 16), .bool true]) (by simp [results, Try.results12, go_sem]) rfl ⟨ret_px (k := true) (x := x) (y := y) (by unfold pxB; rw [hk, hx, hy]; rfl), HT.below⟩

set_option maxHeartbeats 4000000 in
theorem sPixelAt_any (a b c d : Int) (e : Bool) (f g : Int) (x y : Int) (hx0 : -9223372036854775808 ≤ x) (hx1 : x ≤ 9223372036854775807) (hy0 : -9223372036854775808 ≤ y) (hy1 : y ≤ 9223372036854775807) (w : World) :
    Calls Try.prog 59 #[cam a b c d e f g, .int .i64 x, .int .i64 y] w (PxOut (pxB a b c d f g x y) x y w) := by
  have HT : Held w (w.alloc (.cells #[.int .i64 a, .int .i64 b, .int .i64 c, .int .i64 d, .bool e, .int .i64 f, .int .i64 g] 24)) [(w.heap.size, [.int .i64 a, .int .i64 b, .int .i64 c, .int .i64 d, .bool e, .int .i64 f, .int .i64 g])] := by
    have h := (Held.nil w).new #[.int .i64 a, .int .i64 b, .int .i64 c, .int .i64 d, .bool e, .int .i64 f, .int .i64 g] 24
    simpa only [World.size_alloc] using h
  rcases hk : okC a b c d f g with _ | _
  · go_enter Try.func59, Try.ntmps59
    go_wp2_with fail
    refine (sFloorDiv_any _ _ _ (by omega) (by omega)).mono ?_
    rintro x1 w1 ⟨rfl, rfl⟩
    go_wp2_with fail
    refine (sFloorDiv_any _ _ _ (by omega) (by omega)).mono ?_
    rintro x1 w1 ⟨rfl, rfl⟩
    go_wp2_with fail
    refine (sIsValidCamera_any _ _ _ _ _ _ _ _).mono ?_
    rintro x1 w1 ⟨rfl, hb1⟩
    rw [hk]
    have HT := HT.later hb1
    clear hb1
    go_wp2_with fail
    exact bodyPost_ret (v := .tuple #[.int .i64 (0), .int .i64 (0), .bool false]) (by simp [results, Try.results59, go_sem]) rfl ⟨ret_px (k := false) (x := x) (y := y) (by unfold pxB; rw [hk]; rfl), HT.below⟩
  obtain ⟨⟨⟨ha0, ha1⟩, hb0, hb1_⟩, ⟨⟨hc0, hc1⟩, hd0, hd1⟩, ⟨hf0, hf1⟩, hg0, hg1⟩ := (okC_iff _ _ _ _ _ _).1 hk
  rcases hx : inC 0 (a * 16 - 1) x with _ | _
  · go_enter Try.func59, Try.ntmps59
    go_wp2_with fail
    refine (sFloorDiv_any _ _ _ (by omega) (by omega)).mono ?_
    rintro x1 w1 ⟨rfl, rfl⟩
    go_wp2_with fail
    refine (sFloorDiv_any _ _ _ (by omega) (by omega)).mono ?_
    rintro x1 w1 ⟨rfl, rfl⟩
    go_wp2_with fail
    refine (sIsValidCamera_any _ _ _ _ _ _ _ _).mono ?_
    rintro x1 w1 ⟨rfl, hb1⟩
    rw [hk]
    have HT := HT.later hb1
    clear hb1
    have c0 := (HT.box 0).c 0
    have c1 := (HT.box 0).c 1
    have c2 := (HT.box 0).c 2
    have c3 := (HT.box 0).c 3
    have c4 := (HT.box 0).c 4
    have c5 := (HT.box 0).c 5
    have c6 := (HT.box 0).c 6
    go_wp2_with fail
    refine (l01In_any _ _ _ _).mono ?_
    rintro x1 w1 ⟨rfl, rfl⟩
    rw [inC_div, hx]
    go_wp2_with fail
    exact bodyPost_ret (v := .tuple #[.int .i64 (0), .int .i64 (0), .bool false]) (by simp [results, Try.results59, go_sem]) rfl ⟨ret_px (k := false) (x := x) (y := y) (by unfold pxB; rw [hk, hx]; rfl), HT.below⟩
  rcases hy : inC 0 (b * 16 - 1) y with _ | _
  · go_enter Try.func59, Try.ntmps59
    go_wp2_with fail
    refine (sFloorDiv_any _ _ _ (by omega) (by omega)).mono ?_
    rintro x1 w1 ⟨rfl, rfl⟩
    go_wp2_with fail
    refine (sFloorDiv_any _ _ _ (by omega) (by omega)).mono ?_
    rintro x1 w1 ⟨rfl, rfl⟩
    go_wp2_with fail
    refine (sIsValidCamera_any _ _ _ _ _ _ _ _).mono ?_
    rintro x1 w1 ⟨rfl, hb1⟩
    rw [hk]
    have HT := HT.later hb1
    clear hb1
    have c0 := (HT.box 0).c 0
    have c1 := (HT.box 0).c 1
    have c2 := (HT.box 0).c 2
    have c3 := (HT.box 0).c 3
    have c4 := (HT.box 0).c 4
    have c5 := (HT.box 0).c 5
    have c6 := (HT.box 0).c 6
    go_wp2_with fail
    refine (l01In_any _ _ _ _).mono ?_
    rintro x1 w1 ⟨rfl, rfl⟩
    rw [inC_div, hx]
    go_wp2_with fail
    refine (l01In_any _ _ _ _).mono ?_
    rintro x1 w1 ⟨rfl, rfl⟩
    rw [inC_div, hy]
    go_wp2_with fail
    exact bodyPost_ret (v := .tuple #[.int .i64 (0), .int .i64 (0), .bool false]) (by simp [results, Try.results59, go_sem]) rfl ⟨ret_px (k := false) (x := x) (y := y) (by unfold pxB; rw [hk, hx, hy]; rfl), HT.below⟩
  · go_enter Try.func59, Try.ntmps59
    go_wp2_with fail
    refine (sFloorDiv_any _ _ _ (by omega) (by omega)).mono ?_
    rintro x1 w1 ⟨rfl, rfl⟩
    go_wp2_with fail
    refine (sFloorDiv_any _ _ _ (by omega) (by omega)).mono ?_
    rintro x1 w1 ⟨rfl, rfl⟩
    go_wp2_with fail
    refine (sIsValidCamera_any _ _ _ _ _ _ _ _).mono ?_
    rintro x1 w1 ⟨rfl, hb1⟩
    rw [hk]
    have HT := HT.later hb1
    clear hb1
    have c0 := (HT.box 0).c 0
    have c1 := (HT.box 0).c 1
    have c2 := (HT.box 0).c 2
    have c3 := (HT.box 0).c 3
    have c4 := (HT.box 0).c 4
    have c5 := (HT.box 0).c 5
    have c6 := (HT.box 0).c 6
    go_wp2_with fail
    refine (l01In_any _ _ _ _).mono ?_
    rintro x1 w1 ⟨rfl, rfl⟩
    rw [inC_div, hx]
    go_wp2_with fail
    refine (l01In_any _ _ _ _).mono ?_
    rintro x1 w1 ⟨rfl, rfl⟩
    rw [inC_div, hy]

    go_wp2_with fail
    exact bodyPost_ret (v := .tuple #[.int .i64 (fdivP x 16), .int .i64 (fdivP y 16), .bool true]) (by simp [results, Try.results59, go_sem]) rfl ⟨ret_px (k := true) (x := x) (y := y) (by unfold pxB; rw [hk, hx, hy]; rfl), HT.below⟩
end Go.Proofs.Ytbgpcgimmiinbaa
