/- Contracts of the sides of a place: the model, and the program on the screen. -/
import Derived.Test.YtjjafbcfmijppaaProg
import Derived.Test.YtjjafbcfmijppaaInts
import Derived.Test.YtjjafbcfmijppaaVbox
import Derived.Test.YtjjafbcfmijppaaVec
import Derived.Test.YtjjafbcfmijppaaHeld
import Derived.Test.YtjjafbcfmijppaaArr
import Derived.Test.YtjjafbcfmijppaaTr
import Derived.Test.YtjjafbcfmijppaaMem
import Derived.Test.YtjjafbcfmijppaaFlat
import Derived.Test.YtjjafbcfmijppaaRowC
import Derived.Test.YtjjafbcfmijppaaPat
import Derived.Test.YtjjafbcfmijppaaCam
import Derived.Test.YtjjafbcfmijppaaCPrj
import Derived.Test.YtjjafbcfmijppaaTri
import Derived.Test.YtjjafbcfmijppaaTEd
import Derived.WalkKit
import Derived.WalkSpells
import Derived.WalkLawsBesides
import Derived.Lib.Hide
import Derived.Deep.RegionHeld3
import Derived.Deep.QuietTactic
import Derived.BigQuiet
import Derived.Handy
import Derived.Deep.DeepCutAuto
namespace Go.Proofs.Ytjjafbcfmijppaa
open Go.RowKit

set_option maxHeartbeats 2000000 in
theorem l09Side_any (ax ay az bx b_ bz : Int) (x y : Int) (h0 : inS ax) (h1 : inS ay) (h2 : inS bx) (h3 : inS b_) (h4 : inS x) (h5 : inS y) (w : World) :
    Calls Try.prog 39 #[vec ax ay az, vec bx b_ bz, .int .i64 x, .int .i64 y] w (IntOut (sdP ax ay bx b_ x y) w) := by
  obtain ⟨p, q, r⟩ := sd_bd h0 h1 h2 h3 h4 h5
  unfold sdP at r
  unfold inS at *
  have n0 : IntKind.i64.wrap (bx - ax) = bx - ax := wrap_in (by omega)
  have n1 : IntKind.i64.wrap (y - ay) = y - ay := wrap_in (by omega)
  have n2 : IntKind.i64.wrap (b_ - ay) = b_ - ay := wrap_in (by omega)
  have n3 : IntKind.i64.wrap (x - ax) = x - ax := wrap_in (by omega)
  have n4 : IntKind.i64.wrap ((bx - ax) * (y - ay)) = (bx - ax) * (y - ay) := wrap_in (by omega)
  have n5 : IntKind.i64.wrap ((b_ - ay) * (x - ax)) = (b_ - ay) * (x - ax) := wrap_in (by omega)
  have n6 : IntKind.i64.wrap ((bx - ax) * (y - ay) - (b_ - ay) * (x - ax)) = (bx - ax) * (y - ay) - (b_ - ay) * (x - ax) := wrap_in (by omega)
  clear p q r h0 h1 h2 h3 h4 h5
  go_enter Try.func39, Try.ntmps39
  go_wp2_with fail
  go_ret
  exact ⟨retI (by unfold sdP; first | rfl | simp only [n0, n1, n2, n3, n4, n5, n6]), by go_grown⟩

set_option maxHeartbeats 2000000 in
theorem l09Abs_any (n : Int) (h0 : -4611686018427387904 ≤ n) (h1 : n ≤ 4611686018427387903) (w : World) :
    Calls Try.prog 44 #[.int .i64 n] w (fun e w' => e = .returned (.int .i64 (absP n)) ∧ w = w') := by
  by_cases h : n < 0
  · go_enter Try.func44, Try.ntmps44
    go_wp2_with fail
    go_ret
    exact ⟨retI (if_pos (by omega)).symm, rfl⟩
  · go_enter Try.func44, Try.ntmps44
    go_wp2_with fail
    go_ret
    exact ⟨retI (if_neg (by omega)).symm, rfl⟩

set_option maxHeartbeats 2000000 in
theorem l09Place_any (x y : Int) (w : World) :
    Calls Try.prog 42 #[.int .i64 x, .int .i64 y] w (fun e w' => e = .returned (.bool (inC (-100000) 100000 x && inC (-100000) 100000 y)) ∧ w = w') := by
  rcases h0 : inC (-100000) 100000 x with _ | _
  · go_enter Try.func42, Try.ntmps42
    go_wp2_with (go_at_call 58; refine (l01In_any _ _ _ _).mono ?_; rintro x w' ⟨rfl, rfl⟩; (try simp only [h0]))
    go_ret
    exact ⟨rfl, rfl⟩
  · rcases h1 : inC (-100000) 100000 y with _ | _
    all_goals
      go_enter Try.func42, Try.ntmps42
      go_wp2_with (go_at_call 58; refine (l01In_any _ _ _ _).mono ?_; rintro x w' ⟨rfl, rfl⟩; (try simp only [h0, h1]))
      go_ret
      exact ⟨rfl, rfl⟩

set_option maxHeartbeats 2000000 in
theorem isScreen_any (n : Int) (w : World) :
    Calls Try.prog 30 #[.int .i64 n] w (fun e w' => e = .returned (.bool (inC (-100000) 100000 n)) ∧ w = w') := by
  go_enter Try.func30, Try.ntmps30
  go_wp2_with (go_at_call 50; refine (isWithin_any _ _ _ _).mono ?_; rintro e w' ⟨rfl, rfl⟩)
  go_ret
  exact ⟨rfl, rfl⟩

set_option maxHeartbeats 2000000 in
theorem l09Left_any (ax ay az bx b_ bz : Int) (x y : Int) (h0 : inS ax) (h1 : inS ay) (h2 : inS bx) (h3 : inS b_) (h4 : inS x) (h5 : inS y) (w : World) :
    Calls Try.prog 43 #[vec ax ay az, vec bx b_ bz, .int .i64 x, .int .i64 y] w (BOut (leftP ax ay bx b_ x y) w) := by
  have HT : Held w ((w.alloc (.cells #[.int .i64 ax, .int .i64 ay, .int .i64 az] 24)).alloc (.cells #[.int .i64 bx, .int .i64 b_, .int .i64 bz] 24)) [(w.heap.size + 1, [.int .i64 bx, .int .i64 b_, .int .i64 bz]), (w.heap.size, [.int .i64 ax, .int .i64 ay, .int .i64 az])] := by
    have h := ((Held.nil w).new #[.int .i64 ax, .int .i64 ay, .int .i64 az] 24).new #[.int .i64 bx, .int .i64 b_, .int .i64 bz] 24
    simpa only [World.size_alloc] using h
  obtain ⟨s, hs⟩ : ∃ s, s = sdP ax ay bx b_ x y := ⟨_, rfl⟩
  have HL : leftP ax ay bx b_ x y = (decide (0 < s) || (decide (s = 0) && inclP ax ay bx b_)) := by rw [hs]; rfl
  rw [HL]
  have HS := Lib.hid hs
  clear hs HL
  by_cases e0 : s = 0
  · rcases g0 : decide (b_ < ay) with _ | _
    · rcases g1 : (b_ == ay) with _ | _
      · have g2 : decide (b_ = ay) = false := by simpa using g1
        have E := Lib.hid (show inclP ax ay bx b_ = false by unfold inclP; rw [g0, g2] <;> rfl)
        go_enter Try.func43, Try.ntmps43
        go_wp2_with fail
        refine (l09Side_any ax ay az bx b_ bz x y h0 h1 h2 h3 h4 h5 _).mono ?_
        rintro e w1 ⟨rfl, hb1⟩
        have HT := HT.later hb1
        have c0 := (HT.box 1).c 0
        have c1 := (HT.box 1).c 1
        have c2 := (HT.box 1).c 2
        have d0 := (HT.box 0).c 0
        have d1 := (HT.box 0).c 1
        have d2 := (HT.box 0).c 2
        rw [← HS.out]
        have HW := HT.below
        clear HT hb1
        go_wp2_with fail
        go_ret
        exact ⟨retB (by first | (rw [E.out]; simp [e0]) | rw [E.out]), by first | exact HW | go_grown⟩
      · have g2 : decide (b_ = ay) = true := by simpa using g1
        rcases g3 : decide (ax < bx) with _ | _
        all_goals
          have E := Lib.hid (show inclP ax ay bx b_ = _ by unfold inclP; rw [g0, g2, g3] <;> rfl)
          go_enter Try.func43, Try.ntmps43
          go_wp2_with fail
          refine (l09Side_any ax ay az bx b_ bz x y h0 h1 h2 h3 h4 h5 _).mono ?_
          rintro e w1 ⟨rfl, hb1⟩
          have HT := HT.later hb1
          have c0 := (HT.box 1).c 0
          have c1 := (HT.box 1).c 1
          have c2 := (HT.box 1).c 2
          have d0 := (HT.box 0).c 0
          have d1 := (HT.box 0).c 1
          have d2 := (HT.box 0).c 2
          rw [← HS.out]
          have HW := HT.below
          clear HT hb1
          go_wp2_with fail
          go_ret
          exact ⟨retB (by first | (rw [E.out]; simp [e0]) | rw [E.out]), by first | exact HW | go_grown⟩
    · have E := Lib.hid (show inclP ax ay bx b_ = true by unfold inclP; rw [g0] <;> rfl)
      go_enter Try.func43, Try.ntmps43
      go_wp2_with fail
      refine (l09Side_any ax ay az bx b_ bz x y h0 h1 h2 h3 h4 h5 _).mono ?_
      rintro e w1 ⟨rfl, hb1⟩
      have HT := HT.later hb1
      have c0 := (HT.box 1).c 0
      have c1 := (HT.box 1).c 1
      have c2 := (HT.box 1).c 2
      have d0 := (HT.box 0).c 0
      have d1 := (HT.box 0).c 1
      have d2 := (HT.box 0).c 2
      rw [← HS.out]
      have HW := HT.below
      clear HT hb1
      go_wp2_with fail
      go_ret
      exact ⟨retB (by first | (rw [E.out]; simp [e0]) | rw [E.out]), by first | exact HW | go_grown⟩
  · rcases g0 : decide (0 < s) with _ | _
    all_goals
      go_enter Try.func43, Try.ntmps43
      go_wp2_with fail
      refine (l09Side_any ax ay az bx b_ bz x y h0 h1 h2 h3 h4 h5 _).mono ?_
      rintro e w1 ⟨rfl, hb1⟩
      have HT := HT.later hb1
      have c0 := (HT.box 1).c 0
      have c1 := (HT.box 1).c 1
      have c2 := (HT.box 1).c 2
      have d0 := (HT.box 0).c 0
      have d1 := (HT.box 0).c 1
      have d2 := (HT.box 0).c 2
      rw [← HS.out]
      have HW := HT.below
      clear HT hb1
      go_wp2_with fail
      go_ret
      exact ⟨retB (by simp [e0]), by first | exact HW | go_grown⟩
end Go.Proofs.Ytjjafbcfmijppaa
