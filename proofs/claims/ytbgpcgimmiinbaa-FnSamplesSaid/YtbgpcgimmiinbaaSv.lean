/- IsValidSample: the program and its model. -/
import Derived.Test.YtbgpcgimmiinbaaProg
import Derived.Test.YtbgpcgimmiinbaaInts
import Derived.Test.YtbgpcgimmiinbaaVbox
import Derived.Test.YtbgpcgimmiinbaaVec
import Derived.Test.YtbgpcgimmiinbaaHeld
import Derived.Test.YtbgpcgimmiinbaaMem
import Derived.Test.YtbgpcgimmiinbaaFlat
import Derived.Test.YtbgpcgimmiinbaaRowC
import Derived.Test.YtbgpcgimmiinbaaCam
import Derived.Test.YtbgpcgimmiinbaaCPix
import Derived.Test.YtbgpcgimmiinbaaSmp
import Derived.WalkKit
import Derived.WalkSpells
import Derived.WalkLawsBesides
import Derived.Lib.Hide
import Derived.Deep.RegionHeld3
import Derived.Deep.QuietTactic
import Derived.BigQuiet
import Derived.Handy
import Derived.Deep.DeepCutAuto
namespace Go.Proofs.Ytbgpcgimmiinbaa
open Go.RowKit

/-- a sample is valid -/
def vsm (a b c d f g x y t p q : Int) : Bool := pxB a b c d f g x y && (inC 0 15 t && (inC (-16) 16 p && inC (-16) 16 q))

set_option maxHeartbeats 2000000 in
theorem isLensS_any (n : Int) (w : World) :
    Calls Try.prog 44 #[.int .i64 n] w (fun x w' => x = .returned (.bool (inC (-16) 16 n)) ∧ w = w') := by
  go_enter Try.func44, Try.ntmps44
  go_wp2_with (go_at_call 38; refine (isWithin_any _ _ _ _).mono ?_; rintro e w' ⟨rfl, rfl⟩)
  go_ret
  exact ⟨rfl, rfl⟩

set_option maxHeartbeats 8000000 in
theorem isValidSample_any (a b c d : Int) (e : Bool) (f g : Int) (x y t p q : Int) (hx0 : -9223372036854775808 ≤ x) (hx1 : x ≤ 9223372036854775807) (hy0 : -9223372036854775808 ≤ y) (hy1 : y ≤ 9223372036854775807) (w : World) :
    Calls Try.prog 13 #[cam a b c d e f g, smp x y t p q] w (BoolS (vsm a b c d f g x y t p q) w) := by
  have HT : Held w ((w.alloc (.cells #[.int .i64 a, .int .i64 b, .int .i64 c, .int .i64 d, .bool e, .int .i64 f, .int .i64 g] 24)).alloc (.cells #[.int .i64 x, .int .i64 y, .int .i64 t, .int .i64 p, .int .i64 q] 31)) [(w.heap.size + 1, [.int .i64 x, .int .i64 y, .int .i64 t, .int .i64 p, .int .i64 q]), (w.heap.size, [.int .i64 a, .int .i64 b, .int .i64 c, .int .i64 d, .bool e, .int .i64 f, .int .i64 g])] := by
    have h := ((Held.nil w).new #[.int .i64 a, .int .i64 b, .int .i64 c, .int .i64 d, .bool e, .int .i64 f, .int .i64 g] 24).new #[.int .i64 x, .int .i64 y, .int .i64 t, .int .i64 p, .int .i64 q] 31
    simpa only [World.size_alloc] using h
  go_enter Try.func13, Try.ntmps13
  go_wp2_with fail
  refine (pixelAt_any a b c d e f g x y hx0 hx1 hy0 hy1 _).mono ?_
  rintro e1 w1 ⟨rfl, hb1⟩
  have HT := HT.later hb1
  clear hb1
  obtain ⟨k, hk⟩ : ∃ k, k = pxB a b c d f g x y := ⟨_, rfl⟩
  rw [← hk]
  have HK := Lib.hid hk
  clear hk
  have u0 := (HT.box 0).c 0
  have u1 := (HT.box 0).c 1
  have u2 := (HT.box 0).c 2
  have u3 := (HT.box 0).c 3
  have u4 := (HT.box 0).c 4
  cases k
  · go_wp2_with fail
    go_ret
    exact ⟨ret_b (by unfold vsm; rw [← HK.out]; rfl), HT.below⟩
  · rcases h0 : inC 0 15 t with _ | _
    · skip
      go_wp2_with (first | (go_at_call 38; refine (isWithin_any _ _ _ _).mono ?_; rintro e2 w2 ⟨rfl, rfl⟩; (first | simp only [h0] | simp only [h1] | simp only [h2] | skip)) | (go_at_call 44; refine (isLensS_any _ _).mono ?_; rintro e2 w2 ⟨rfl, rfl⟩; (first | simp only [h1] | simp only [h2] | skip)))
      go_ret
      exact ⟨ret_b (by unfold vsm; rw [← HK.out]; first | rfl | (rw [h0]; done) | (rw [h0]; rfl)), HT.below⟩
    · rcases h1 : inC (-16) 16 p with _ | _
      · skip
        go_wp2_with (first | (go_at_call 38; refine (isWithin_any _ _ _ _).mono ?_; rintro e2 w2 ⟨rfl, rfl⟩; (first | simp only [h0] | simp only [h1] | simp only [h2] | skip)) | (go_at_call 44; refine (isLensS_any _ _).mono ?_; rintro e2 w2 ⟨rfl, rfl⟩; (first | simp only [h1] | simp only [h2] | skip)))
        go_ret
        exact ⟨ret_b (by unfold vsm; rw [← HK.out]; first | rfl | (rw [h0, h1]; done) | (rw [h0, h1]; rfl)), HT.below⟩
      · rcases h2 : inC (-16) 16 q with _ | _
        all_goals
          go_wp2_with (first | (go_at_call 38; refine (isWithin_any _ _ _ _).mono ?_; rintro e2 w2 ⟨rfl, rfl⟩; (first | simp only [h0] | simp only [h1] | simp only [h2] | skip)) | (go_at_call 44; refine (isLensS_any _ _).mono ?_; rintro e2 w2 ⟨rfl, rfl⟩; (first | simp only [h1] | simp only [h2] | skip)))
          go_ret
          exact ⟨ret_b (by unfold vsm; rw [← HK.out]; first | rfl | (rw [h0, h1, h2]; done) | (rw [h0, h1, h2]; rfl)), HT.below⟩

set_option maxHeartbeats 8000000 in
theorem sIsValidSample_any (a b c d : Int) (e : Bool) (f g : Int) (x y t p q : Int) (hx0 : -9223372036854775808 ≤ x) (hx1 : x ≤ 9223372036854775807) (hy0 : -9223372036854775808 ≤ y) (hy1 : y ≤ 9223372036854775807) (w : World) :
    Calls Try.prog 28 #[cam a b c d e f g, smp x y t p q] w (BoolS (vsm a b c d f g x y t p q) w) := by
  have HT : Held w ((w.alloc (.cells #[.int .i64 a, .int .i64 b, .int .i64 c, .int .i64 d, .bool e, .int .i64 f, .int .i64 g] 24)).alloc (.cells #[.int .i64 x, .int .i64 y, .int .i64 t, .int .i64 p, .int .i64 q] 31)) [(w.heap.size + 1, [.int .i64 x, .int .i64 y, .int .i64 t, .int .i64 p, .int .i64 q]), (w.heap.size, [.int .i64 a, .int .i64 b, .int .i64 c, .int .i64 d, .bool e, .int .i64 f, .int .i64 g])] := by
    have h := ((Held.nil w).new #[.int .i64 a, .int .i64 b, .int .i64 c, .int .i64 d, .bool e, .int .i64 f, .int .i64 g] 24).new #[.int .i64 x, .int .i64 y, .int .i64 t, .int .i64 p, .int .i64 q] 31
    simpa only [World.size_alloc] using h
  go_enter Try.func28, Try.ntmps28
  go_wp2_with fail
  refine (sPixelAt_any a b c d e f g x y hx0 hx1 hy0 hy1 _).mono ?_
  rintro e1 w1 ⟨rfl, hb1⟩
  have HT := HT.later hb1
  clear hb1
  obtain ⟨k, hk⟩ : ∃ k, k = pxB a b c d f g x y := ⟨_, rfl⟩
  rw [← hk]
  have HK := Lib.hid hk
  clear hk
  have u0 := (HT.box 0).c 0
  have u1 := (HT.box 0).c 1
  have u2 := (HT.box 0).c 2
  have u3 := (HT.box 0).c 3
  have u4 := (HT.box 0).c 4
  cases k
  · go_wp2_with fail
    go_ret
    exact ⟨ret_b (by unfold vsm; rw [← HK.out]; rfl), HT.below⟩
  · rcases h0 : inC 0 15 t with _ | _
    · skip
      go_wp2_with (first | (go_at_call 57; refine (l01In_any _ _ _ _).mono ?_; rintro e2 w2 ⟨rfl, rfl⟩; (first | simp only [h0] | simp only [h1] | simp only [h2] | skip)))
      go_ret
      exact ⟨ret_b (by unfold vsm; rw [← HK.out]; first | rfl | (rw [h0]; done) | (rw [h0]; rfl)), HT.below⟩
    · rcases h1 : inC (-16) 16 p with _ | _
      · skip
        go_wp2_with (first | (go_at_call 57; refine (l01In_any _ _ _ _).mono ?_; rintro e2 w2 ⟨rfl, rfl⟩; (first | simp only [h0] | simp only [h1] | simp only [h2] | skip)))
        go_ret
        exact ⟨ret_b (by unfold vsm; rw [← HK.out]; first | rfl | (rw [h0, h1]; done) | (rw [h0, h1]; rfl)), HT.below⟩
      · rcases h2 : inC (-16) 16 q with _ | _
        all_goals
          go_wp2_with (first | (go_at_call 57; refine (l01In_any _ _ _ _).mono ?_; rintro e2 w2 ⟨rfl, rfl⟩; (first | simp only [h0] | simp only [h1] | simp only [h2] | skip)))
          go_ret
          exact ⟨ret_b (by unfold vsm; rw [← HK.out]; first | rfl | (rw [h0, h1, h2]; done) | (rw [h0, h1, h2]; rfl)), HT.below⟩
end Go.Proofs.Ytbgpcgimmiinbaa
