/- Contracts of edge functions, of corners, and of the sides of a place: the program and its model. -/
import Derived.Test.YtjjafbcfmijppaaProg
import Derived.Test.YtjjafbcfmijppaaInts
import Derived.Test.YtjjafbcfmijppaaVbox
import Derived.Test.YtjjafbcfmijppaaVec
import Derived.Test.YtjjafbcfmijppaaHeld
import Derived.Test.YtjjafbcfmijppaaArr
import Derived.Test.YtjjafbcfmijppaaTr
import Derived.Test.YtjjafbcfmijppaaMem
import Derived.Test.YtjjafbcfmijppaaFlat
import Derived.Test.YtjjafbcfmijppaaRowC
import Derived.Test.YtjjafbcfmijppaaPat
import Derived.Test.YtjjafbcfmijppaaCam
import Derived.Test.YtjjafbcfmijppaaCPrj
import Derived.Test.YtjjafbcfmijppaaTri
import Derived.WalkKit
import Derived.WalkSpells
import Derived.WalkLawsBesides
import Derived.Lib.Hide
import Derived.Deep.RegionHeld3
import Derived.Deep.QuietTactic
import Derived.BigQuiet
import Derived.Handy
import Derived.Deep.DeepCutAuto
namespace Go.Proofs.Ytjjafbcfmijppaa
open Go.RowKit

/-- a screen coordinate in range -/
def inS (n : Int) : Prop := -100000 ≤ n ∧ n ≤ 100000
/-- on which side of the line from a to b a place lies -/
def sdP (ax ay bx b_ x y : Int) : Int := (bx - ax) * (y - ay) - (b_ - ay) * (x - ax)
theorem sd_bd {ax ay bx b_ x y : Int} (h0 : inS ax) (h1 : inS ay) (h2 : inS bx) (h3 : inS b_) (h4 : inS x) (h5 : inS y) :
    (-40000000000 ≤ (bx - ax) * (y - ay) ∧ (bx - ax) * (y - ay) ≤ 40000000000) ∧ (-40000000000 ≤ (b_ - ay) * (x - ax) ∧ (b_ - ay) * (x - ax) ≤ 40000000000) ∧ -80000000000 ≤ sdP ax ay bx b_ x y ∧ sdP ax ay bx b_ x y ≤ 80000000000 := by
  unfold inS at *
  have p := mul_bd (a := bx - ax) (b := y - ay) (m := 200000) (n := 200000) (by omega) (by omega)
  have q := mul_bd (a := b_ - ay) (b := x - ax) (m := 200000) (n := 200000) (by omega) (by omega)
  unfold sdP
  omega
/-- an edge counts as inside -/
def inclP (ax ay bx b_ : Int) : Bool := decide (b_ < ay) || (decide (b_ = ay) && decide (ax < bx))
/-- a place lies left of an edge -/
def leftP (ax ay bx b_ x y : Int) : Bool := decide (0 < sdP ax ay bx b_ x y) || (decide (sdP ax ay bx b_ x y = 0) && inclP ax ay bx b_)
def IntOut (n : Int) (w : World) (e : Ending) (w' : World) : Prop := e = .returned (.int .i64 n) ∧ Below w.heap.size w w'
def absP (n : Int) : Int := if n < 0 then -n else n
/-- the corner with a number -/
def crV (p q r : V3) (k : Int) : V3 := if k = 0 ∨ k = 3 then p else if k = 1 ∨ k = 4 then q else r
theorem retI {a b : Int} (h : a = b) : Ending.returned (.int .i64 a) = .returned (.int .i64 b) := by rw [h]

set_option maxHeartbeats 2000000 in
theorem isInclusive_any (ax ay az bx b_ bz : Int) (w : World) :
    Calls Try.prog 34 #[vec ax ay az, vec bx b_ bz] w (BOut (inclP ax ay bx b_) w) := by
  rcases h0 : decide (b_ < ay) with _ | _
  · rcases h1 : (b_ == ay) with _ | _
    · have h2 : decide (b_ = ay) = false := by simpa using h1
      go_enter Try.func34, Try.ntmps34
      first | (go_quiet (fail)) | skip
      go_wp2_with fail
      go_ret
      exact ⟨retB (by unfold inclP; rw [h0, h2] <;> rfl), by go_grown⟩
    · have h2 : decide (b_ = ay) = true := by simpa using h1
      rcases h3 : decide (ax < bx) with _ | _
      all_goals
        go_enter Try.func34, Try.ntmps34
        go_wp2_with fail
        go_ret
        exact ⟨retB (by unfold inclP; rw [h0, h2, h3] <;> rfl), by go_grown⟩
  · go_enter Try.func34, Try.ntmps34
    go_wp2_with fail
    go_ret
    exact ⟨retB (by unfold inclP; rw [h0] <;> rfl), by go_grown⟩

set_option maxHeartbeats 2000000 in
theorem edgeFn_any (d a g : Nat) (ax ay dx dy x y : Int) (hx : inS x) (hy : inS y) (hax : inS ax) (hay : inS ay) (hdx : -200000 ≤ dx ∧ dx ≤ 200000) (hdy : -200000 ≤ dy ∧ dy ≤ 200000) (w : World) (c0 : w.cell? ⟨d, 0, none⟩ = some (.int .i64 dx)) (c1 : w.cell? ⟨a, 0, none⟩ = some (.int .i64 ax)) (c2 : w.cell? ⟨a, 1, none⟩ = some (.int .i64 ay)) (c3 : w.cell? ⟨g, 0, none⟩ = some (.int .i64 dy)) :
    Calls Try.prog 65 #[.int .i64 x, .int .i64 y, .pointer (some ⟨d, 0, none⟩), .pointer (some ⟨a, 0, none⟩), .pointer (some ⟨g, 0, none⟩)] w (fun e w' => e = .returned (.int .i64 (dx * (y - ay) - dy * (x - ax))) ∧ w = w') := by
  unfold inS at *
  have p := mul_bd (a := dx) (b := y - ay) (m := 200000) (n := 200000) (by omega) (by omega)
  have q := mul_bd (a := dy) (b := x - ax) (m := 200000) (n := 200000) (by omega) (by omega)
  have n0 : IntKind.i64.wrap (y - ay) = y - ay := wrap_in (by omega)
  have n1 : IntKind.i64.wrap (x - ax) = x - ax := wrap_in (by omega)
  have n2 : IntKind.i64.wrap (dx * (y - ay)) = dx * (y - ay) := wrap_in (by omega)
  have n3 : IntKind.i64.wrap (dy * (x - ax)) = dy * (x - ax) := wrap_in (by omega)
  have n4 : IntKind.i64.wrap (dx * (y - ay) - dy * (x - ax)) = dx * (y - ay) - dy * (x - ax) := wrap_in (by omega)
  clear p q hx hy hax hay hdx hdy
  go_enter Try.func65, Try.ntmps65
  go_wp2_with fail
  go_ret
  exact ⟨retI (by first | rfl | simp only [n0, n1, n2, n3, n4]), rfl⟩

/-- an edge function in memory -/
def EdgeOut (ax ay bx b_ : Int) (w : World) (e : Ending) (w' : World) : Prop := ∃ d a g : Nat, e = .returned (.func (.func 65) #[] #[.pointer (some ⟨d, 0, none⟩), .pointer (some ⟨a, 0, none⟩), .pointer (some ⟨g, 0, none⟩)]) ∧ Below w.heap.size w w' ∧ w'.cell? ⟨d, 0, none⟩ = some (.int .i64 (bx - ax)) ∧ w'.cell? ⟨a, 0, none⟩ = some (.int .i64 ax) ∧ w'.cell? ⟨a, 1, none⟩ = some (.int .i64 ay) ∧ w'.cell? ⟨g, 0, none⟩ = some (.int .i64 (b_ - ay))

set_option maxHeartbeats 8000000 in
theorem edgeBetween_any (ax ay az bx b_ bz : Int) (h0 : inS ax) (h1 : inS ay) (h2 : inS bx) (h3 : inS b_) (w : World) :
    Calls Try.prog 53 #[vec ax ay az, vec bx b_ bz] w (EdgeOut ax ay bx b_ w) := by
  unfold inS at *
  have n0 : IntKind.i64.wrap (bx - ax) = bx - ax := wrap_in (by omega)
  have n1 : IntKind.i64.wrap (b_ - ay) = b_ - ay := wrap_in (by omega)
  clear h0 h1 h2 h3
  have hmf : ∀ (fn : Fn) (first cap : Array Value) (w : World), (Instr.makeFunc fn first cap).run Try.prog w = .ok (.func fn first cap) w := fun _ _ _ _ => rfl
  go_enter Try.func53, Try.ntmps53
  go_wp2_with fail
  go_region
  all_goals
    go_wp2_with fail
    go_ret
    exact ⟨_, _, _, rfl, by go_grown, by simp [go_sem], by simp [go_sem], by simp [go_sem], by simp [go_sem]⟩

set_option maxHeartbeats 2000000 in
theorem corner_any (a0 a1 a2 a3 a4 a5 a6 a7 a8 : Int) (k : Int) (h0 : 0 ≤ k) (h1 : k ≤ 4) (w : World) :
    Calls Try.prog 35 #[mat a0 a1 a2 a3 a4 a5 a6 a7 a8, .int .i64 k] w (VecOut (crV (a0, a1, a2) (a3, a4, a5) (a6, a7, a8) (k)).1 (crV (a0, a1, a2) (a3, a4, a5) (a6, a7, a8) (k)).2.1 (crV (a0, a1, a2) (a3, a4, a5) (a6, a7, a8) (k)).2.2 w) := by
  obtain rfl | rfl | rfl | rfl | rfl : k = 0 ∨ k = 1 ∨ k = 2 ∨ k = 3 ∨ k = 4 := by omega
  · go_enter Try.func35, Try.ntmps35
    go_wp2_with fail
    exact bodyPost_ret (v := vec a0 a1 a2) (by simp [results, Try.results35, go_sem]) rfl ⟨rfl, by go_grown⟩
  · go_enter Try.func35, Try.ntmps35
    go_wp2_with fail
    exact bodyPost_ret (v := vec a3 a4 a5) (by simp [results, Try.results35, go_sem]) rfl ⟨rfl, by go_grown⟩
  · go_enter Try.func35, Try.ntmps35
    go_wp2_with fail
    exact bodyPost_ret (v := vec a6 a7 a8) (by simp [results, Try.results35, go_sem]) rfl ⟨rfl, by go_grown⟩
  · go_enter Try.func35, Try.ntmps35
    go_wp2_with fail
    exact bodyPost_ret (v := vec a0 a1 a2) (by simp [results, Try.results35, go_sem]) rfl ⟨rfl, by go_grown⟩
  · go_enter Try.func35, Try.ntmps35
    go_wp2_with fail
    exact bodyPost_ret (v := vec a3 a4 a5) (by simp [results, Try.results35, go_sem]) rfl ⟨rfl, by go_grown⟩

set_option maxHeartbeats 8000000 in
theorem edgeFrom_any (a0 a1 a2 a3 a4 a5 a6 a7 a8 : Int) (k : Int) (h0 : 0 ≤ k) (h1 : k ≤ 3) (b0 : inS a0) (b1 : inS a1) (b3 : inS a3) (b4 : inS a4) (b6 : inS a6) (b7 : inS a7) (w : World) :
    Calls Try.prog 33 #[mat a0 a1 a2 a3 a4 a5 a6 a7 a8, .int .i64 k] w (EdgeOut (crV (a0, a1, a2) (a3, a4, a5) (a6, a7, a8) (k)).1 (crV (a0, a1, a2) (a3, a4, a5) (a6, a7, a8) (k)).2.1 (crV (a0, a1, a2) (a3, a4, a5) (a6, a7, a8) (k + 1)).1 (crV (a0, a1, a2) (a3, a4, a5) (a6, a7, a8) (k + 1)).2.1 w) := by
  obtain rfl | rfl | rfl | rfl : k = 0 ∨ k = 1 ∨ k = 2 ∨ k = 3 := by omega
  · have HT : Held w (w.alloc (.cells #[.int .i64 a0, .int .i64 a1, .int .i64 a2, .int .i64 a3, .int .i64 a4, .int .i64 a5, .int .i64 a6, .int .i64 a7, .int .i64 a8] 27)) [(w.heap.size, [.int .i64 a0, .int .i64 a1, .int .i64 a2, .int .i64 a3, .int .i64 a4, .int .i64 a5, .int .i64 a6, .int .i64 a7, .int .i64 a8])] := by
      have h := (Held.nil w).new #[.int .i64 a0, .int .i64 a1, .int .i64 a2, .int .i64 a3, .int .i64 a4, .int .i64 a5, .int .i64 a6, .int .i64 a7, .int .i64 a8] 27
      simpa only [World.size_alloc] using h
    have HC : ∀ W, Held w W [(w.heap.size, [.int .i64 a0, .int .i64 a1, .int .i64 a2, .int .i64 a3, .int .i64 a4, .int .i64 a5, .int .i64 a6, .int .i64 a7, .int .i64 a8])] → (W.cell? ⟨w.heap.size, 0, none⟩ = some (.int .i64 a0) ∧ W.cell? ⟨w.heap.size, 1, none⟩ = some (.int .i64 a1) ∧ W.cell? ⟨w.heap.size, 2, none⟩ = some (.int .i64 a2) ∧ W.cell? ⟨w.heap.size, 3, none⟩ = some (.int .i64 a3) ∧ W.cell? ⟨w.heap.size, 4, none⟩ = some (.int .i64 a4) ∧ W.cell? ⟨w.heap.size, 5, none⟩ = some (.int .i64 a5) ∧ W.cell? ⟨w.heap.size, 6, none⟩ = some (.int .i64 a6) ∧ W.cell? ⟨w.heap.size, 7, none⟩ = some (.int .i64 a7) ∧ W.cell? ⟨w.heap.size, 8, none⟩ = some (.int .i64 a8)) := fun W h => ⟨(h.box 0).c 0, (h.box 0).c 1, (h.box 0).c 2, (h.box 0).c 3, (h.box 0).c 4, (h.box 0).c 5, (h.box 0).c 6, (h.box 0).c 7, (h.box 0).c 8⟩
    have HCa : ∀ w : World, Calls Try.prog 35 #[mat a0 a1 a2 a3 a4 a5 a6 a7 a8, .int .i64 0] w (VecOut a0 a1 a2 w) := fun w => corner_any a0 a1 a2 a3 a4 a5 a6 a7 a8 0 (by omega) (by omega) w
    have HCb : ∀ w : World, Calls Try.prog 35 #[mat a0 a1 a2 a3 a4 a5 a6 a7 a8, .int .i64 1] w (VecOut a3 a4 a5 w) := fun w => corner_any a0 a1 a2 a3 a4 a5 a6 a7 a8 1 (by omega) (by omega) w
    have n1 : IntKind.i64.wrap (0 + 1) = 1 := by rfl
    go_enter Try.func33, Try.ntmps33
    go_wp2_with fail
    go_region_held3 (fun w' => w'.cell? ⟨w.heap.size, 0, none⟩ = some (.int .i64 a0) ∧ w'.cell? ⟨w.heap.size, 1, none⟩ = some (.int .i64 a1) ∧ w'.cell? ⟨w.heap.size, 2, none⟩ = some (.int .i64 a2) ∧ w'.cell? ⟨w.heap.size, 3, none⟩ = some (.int .i64 a3) ∧ w'.cell? ⟨w.heap.size, 4, none⟩ = some (.int .i64 a4) ∧ w'.cell? ⟨w.heap.size, 5, none⟩ = some (.int .i64 a5) ∧ w'.cell? ⟨w.heap.size, 6, none⟩ = some (.int .i64 a6) ∧ w'.cell? ⟨w.heap.size, 7, none⟩ = some (.int .i64 a7) ∧ w'.cell? ⟨w.heap.size, 8, none⟩ = some (.int .i64 a8))
      (first | (with_reducible exact HC _ HT) | (with_reducible exact HC _ HT.drew))
      (first | (go_at_call 35; refine (HCa _).mono ?_; rintro e w1 ⟨rfl, hb1⟩; (first | (have HT := HT.later hb1) | (have HT := HT.drew.later hb1))) | (go_at_call 35; refine (HCb _).mono ?_; rintro e w1 ⟨rfl, hb1⟩; (first | (have HT := HT.later hb1) | (have HT := HT.drew.later hb1))) | (go_at_call 53; refine (edgeBetween_any a0 a1 a2 a3 a4 a5 b0 b1 b3 b4 _).mono ?_; rintro e w1 ⟨d, a, g, rfl, hb1, e0, e1, e2, e3⟩; (first | (have HT := HT.later hb1) | (have HT := HT.drew.later hb1))))
    go_wp2_with fail
    go_ret
    exact ⟨_, _, _, rfl, HT.below, e0, e1, e2, e3⟩
  · have HT : Held w (w.alloc (.cells #[.int .i64 a0, .int .i64 a1, .int .i64 a2, .int .i64 a3, .int .i64 a4, .int .i64 a5, .int .i64 a6, .int .i64 a7, .int .i64 a8] 27)) [(w.heap.size, [.int .i64 a0, .int .i64 a1, .int .i64 a2, .int .i64 a3, .int .i64 a4, .int .i64 a5, .int .i64 a6, .int .i64 a7, .int .i64 a8])] := by
      have h := (Held.nil w).new #[.int .i64 a0, .int .i64 a1, .int .i64 a2, .int .i64 a3, .int .i64 a4, .int .i64 a5, .int .i64 a6, .int .i64 a7, .int .i64 a8] 27
      simpa only [World.size_alloc] using h
    have HC : ∀ W, Held w W [(w.heap.size, [.int .i64 a0, .int .i64 a1, .int .i64 a2, .int .i64 a3, .int .i64 a4, .int .i64 a5, .int .i64 a6, .int .i64 a7, .int .i64 a8])] → (W.cell? ⟨w.heap.size, 0, none⟩ = some (.int .i64 a0) ∧ W.cell? ⟨w.heap.size, 1, none⟩ = some (.int .i64 a1) ∧ W.cell? ⟨w.heap.size, 2, none⟩ = some (.int .i64 a2) ∧ W.cell? ⟨w.heap.size, 3, none⟩ = some (.int .i64 a3) ∧ W.cell? ⟨w.heap.size, 4, none⟩ = some (.int .i64 a4) ∧ W.cell? ⟨w.heap.size, 5, none⟩ = some (.int .i64 a5) ∧ W.cell? ⟨w.heap.size, 6, none⟩ = some (.int .i64 a6) ∧ W.cell? ⟨w.heap.size, 7, none⟩ = some (.int .i64 a7) ∧ W.cell? ⟨w.heap.size, 8, none⟩ = some (.int .i64 a8)) := fun W h => ⟨(h.box 0).c 0, (h.box 0).c 1, (h.box 0).c 2, (h.box 0).c 3, (h.box 0).c 4, (h.box 0).c 5, (h.box 0).c 6, (h.box 0).c 7, (h.box 0).c 8⟩
    have HCa : ∀ w : World, Calls Try.prog 35 #[mat a0 a1 a2 a3 a4 a5 a6 a7 a8, .int .i64 1] w (VecOut a3 a4 a5 w) := fun w => corner_any a0 a1 a2 a3 a4 a5 a6 a7 a8 1 (by omega) (by omega) w
    have HCb : ∀ w : World, Calls Try.prog 35 #[mat a0 a1 a2 a3 a4 a5 a6 a7 a8, .int .i64 2] w (VecOut a6 a7 a8 w) := fun w => corner_any a0 a1 a2 a3 a4 a5 a6 a7 a8 2 (by omega) (by omega) w
    have n1 : IntKind.i64.wrap (1 + 1) = 2 := by rfl
    go_enter Try.func33, Try.ntmps33
    go_wp2_with fail
    go_region_held3 (fun w' => w'.cell? ⟨w.heap.size, 0, none⟩ = some (.int .i64 a0) ∧ w'.cell? ⟨w.heap.size, 1, none⟩ = some (.int .i64 a1) ∧ w'.cell? ⟨w.heap.size, 2, none⟩ = some (.int .i64 a2) ∧ w'.cell? ⟨w.heap.size, 3, none⟩ = some (.int .i64 a3) ∧ w'.cell? ⟨w.heap.size, 4, none⟩ = some (.int .i64 a4) ∧ w'.cell? ⟨w.heap.size, 5, none⟩ = some (.int .i64 a5) ∧ w'.cell? ⟨w.heap.size, 6, none⟩ = some (.int .i64 a6) ∧ w'.cell? ⟨w.heap.size, 7, none⟩ = some (.int .i64 a7) ∧ w'.cell? ⟨w.heap.size, 8, none⟩ = some (.int .i64 a8))
      (first | (with_reducible exact HC _ HT) | (with_reducible exact HC _ HT.drew))
      (first | (go_at_call 35; refine (HCa _).mono ?_; rintro e w1 ⟨rfl, hb1⟩; (first | (have HT := HT.later hb1) | (have HT := HT.drew.later hb1))) | (go_at_call 35; refine (HCb _).mono ?_; rintro e w1 ⟨rfl, hb1⟩; (first | (have HT := HT.later hb1) | (have HT := HT.drew.later hb1))) | (go_at_call 53; refine (edgeBetween_any a3 a4 a5 a6 a7 a8 b3 b4 b6 b7 _).mono ?_; rintro e w1 ⟨d, a, g, rfl, hb1, e0, e1, e2, e3⟩; (first | (have HT := HT.later hb1) | (have HT := HT.drew.later hb1))))
    go_wp2_with fail
    go_ret
    exact ⟨_, _, _, rfl, HT.below, e0, e1, e2, e3⟩
  · have HT : Held w (w.alloc (.cells #[.int .i64 a0, .int .i64 a1, .int .i64 a2, .int .i64 a3, .int .i64 a4, .int .i64 a5, .int .i64 a6, .int .i64 a7, .int .i64 a8] 27)) [(w.heap.size, [.int .i64 a0, .int .i64 a1, .int .i64 a2, .int .i64 a3, .int .i64 a4, .int .i64 a5, .int .i64 a6, .int .i64 a7, .int .i64 a8])] := by
      have h := (Held.nil w).new #[.int .i64 a0, .int .i64 a1, .int .i64 a2, .int .i64 a3, .int .i64 a4, .int .i64 a5, .int .i64 a6, .int .i64 a7, .int .i64 a8] 27
      simpa only [World.size_alloc] using h
    have HC : ∀ W, Held w W [(w.heap.size, [.int .i64 a0, .int .i64 a1, .int .i64 a2, .int .i64 a3, .int .i64 a4, .int .i64 a5, .int .i64 a6, .int .i64 a7, .int .i64 a8])] → (W.cell? ⟨w.heap.size, 0, none⟩ = some (.int .i64 a0) ∧ W.cell? ⟨w.heap.size, 1, none⟩ = some (.int .i64 a1) ∧ W.cell? ⟨w.heap.size, 2, none⟩ = some (.int .i64 a2) ∧ W.cell? ⟨w.heap.size, 3, none⟩ = some (.int .i64 a3) ∧ W.cell? ⟨w.heap.size, 4, none⟩ = some (.int .i64 a4) ∧ W.cell? ⟨w.heap.size, 5, none⟩ = some (.int .i64 a5) ∧ W.cell? ⟨w.heap.size, 6, none⟩ = some (.int .i64 a6) ∧ W.cell? ⟨w.heap.size, 7, none⟩ = some (.int .i64 a7) ∧ W.cell? ⟨w.heap.size, 8, none⟩ = some (.int .i64 a8)) := fun W h => ⟨(h.box 0).c 0, (h.box 0).c 1, (h.box 0).c 2, (h.box 0).c 3, (h.box 0).c 4, (h.box 0).c 5, (h.box 0).c 6, (h.box 0).c 7, (h.box 0).c 8⟩
    have HCa : ∀ w : World, Calls Try.prog 35 #[mat a0 a1 a2 a3 a4 a5 a6 a7 a8, .int .i64 2] w (VecOut a6 a7 a8 w) := fun w => corner_any a0 a1 a2 a3 a4 a5 a6 a7 a8 2 (by omega) (by omega) w
    have HCb : ∀ w : World, Calls Try.prog 35 #[mat a0 a1 a2 a3 a4 a5 a6 a7 a8, .int .i64 3] w (VecOut a0 a1 a2 w) := fun w => corner_any a0 a1 a2 a3 a4 a5 a6 a7 a8 3 (by omega) (by omega) w
    have n1 : IntKind.i64.wrap (2 + 1) = 3 := by rfl
    go_enter Try.func33, Try.ntmps33
    go_wp2_with fail
    go_region_held3 (fun w' => w'.cell? ⟨w.heap.size, 0, none⟩ = some (.int .i64 a0) ∧ w'.cell? ⟨w.heap.size, 1, none⟩ = some (.int .i64 a1) ∧ w'.cell? ⟨w.heap.size, 2, none⟩ = some (.int .i64 a2) ∧ w'.cell? ⟨w.heap.size, 3, none⟩ = some (.int .i64 a3) ∧ w'.cell? ⟨w.heap.size, 4, none⟩ = some (.int .i64 a4) ∧ w'.cell? ⟨w.heap.size, 5, none⟩ = some (.int .i64 a5) ∧ w'.cell? ⟨w.heap.size, 6, none⟩ = some (.int .i64 a6) ∧ w'.cell? ⟨w.heap.size, 7, none⟩ = some (.int .i64 a7) ∧ w'.cell? ⟨w.heap.size, 8, none⟩ = some (.int .i64 a8))
      (first | (with_reducible exact HC _ HT) | (with_reducible exact HC _ HT.drew))
      (first | (go_at_call 35; refine (HCa _).mono ?_; rintro e w1 ⟨rfl, hb1⟩; (first | (have HT := HT.later hb1) | (have HT := HT.drew.later hb1))) | (go_at_call 35; refine (HCb _).mono ?_; rintro e w1 ⟨rfl, hb1⟩; (first | (have HT := HT.later hb1) | (have HT := HT.drew.later hb1))) | (go_at_call 53; refine (edgeBetween_any a6 a7 a8 a0 a1 a2 b6 b7 b0 b1 _).mono ?_; rintro e w1 ⟨d, a, g, rfl, hb1, e0, e1, e2, e3⟩; (first | (have HT := HT.later hb1) | (have HT := HT.drew.later hb1))))
    go_wp2_with fail
    go_ret
    exact ⟨_, _, _, rfl, HT.below, e0, e1, e2, e3⟩
  · have HT : Held w (w.alloc (.cells #[.int .i64 a0, .int .i64 a1, .int .i64 a2, .int .i64 a3, .int .i64 a4, .int .i64 a5, .int .i64 a6, .int .i64 a7, .int .i64 a8] 27)) [(w.heap.size, [.int .i64 a0, .int .i64 a1, .int .i64 a2, .int .i64 a3, .int .i64 a4, .int .i64 a5, .int .i64 a6, .int .i64 a7, .int .i64 a8])] := by
      have h := (Held.nil w).new #[.int .i64 a0, .int .i64 a1, .int .i64 a2, .int .i64 a3, .int .i64 a4, .int .i64 a5, .int .i64 a6, .int .i64 a7, .int .i64 a8] 27
      simpa only [World.size_alloc] using h
    have HC : ∀ W, Held w W [(w.heap.size, [.int .i64 a0, .int .i64 a1, .int .i64 a2, .int .i64 a3, .int .i64 a4, .int .i64 a5, .int .i64 a6, .int .i64 a7, .int .i64 a8])] → (W.cell? ⟨w.heap.size, 0, none⟩ = some (.int .i64 a0) ∧ W.cell? ⟨w.heap.size, 1, none⟩ = some (.int .i64 a1) ∧ W.cell? ⟨w.heap.size, 2, none⟩ = some (.int .i64 a2) ∧ W.cell? ⟨w.heap.size, 3, none⟩ = some (.int .i64 a3) ∧ W.cell? ⟨w.heap.size, 4, none⟩ = some (.int .i64 a4) ∧ W.cell? ⟨w.heap.size, 5, none⟩ = some (.int .i64 a5) ∧ W.cell? ⟨w.heap.size, 6, none⟩ = some (.int .i64 a6) ∧ W.cell? ⟨w.heap.size, 7, none⟩ = some (.int .i64 a7) ∧ W.cell? ⟨w.heap.size, 8, none⟩ = some (.int .i64 a8)) := fun W h => ⟨(h.box 0).c 0, (h.box 0).c 1, (h.box 0).c 2, (h.box 0).c 3, (h.box 0).c 4, (h.box 0).c 5, (h.box 0).c 6, (h.box 0).c 7, (h.box 0).c 8⟩
    have HCa : ∀ w : World, Calls Try.prog 35 #[mat a0 a1 a2 a3 a4 a5 a6 a7 a8, .int .i64 3] w (VecOut a0 a1 a2 w) := fun w => corner_any a0 a1 a2 a3 a4 a5 a6 a7 a8 3 (by omega) (by omega) w
    have HCb : ∀ w : World, Calls Try.prog 35 #[mat a0 a1 a2 a3 a4 a5 a6 a7 a8, .int .i64 4] w (VecOut a3 a4 a5 w) := fun w => corner_any a0 a1 a2 a3 a4 a5 a6 a7 a8 4 (by omega) (by omega) w
    have n1 : IntKind.i64.wrap (3 + 1) = 4 := by rfl
    go_enter Try.func33, Try.ntmps33
    go_wp2_with fail
    go_region_held3 (fun w' => w'.cell? ⟨w.heap.size, 0, none⟩ = some (.int .i64 a0) ∧ w'.cell? ⟨w.heap.size, 1, none⟩ = some (.int .i64 a1) ∧ w'.cell? ⟨w.heap.size, 2, none⟩ = some (.int .i64 a2) ∧ w'.cell? ⟨w.heap.size, 3, none⟩ = some (.int .i64 a3) ∧ w'.cell? ⟨w.heap.size, 4, none⟩ = some (.int .i64 a4) ∧ w'.cell? ⟨w.heap.size, 5, none⟩ = some (.int .i64 a5) ∧ w'.cell? ⟨w.heap.size, 6, none⟩ = some (.int .i64 a6) ∧ w'.cell? ⟨w.heap.size, 7, none⟩ = some (.int .i64 a7) ∧ w'.cell? ⟨w.heap.size, 8, none⟩ = some (.int .i64 a8))
      (first | (with_reducible exact HC _ HT) | (with_reducible exact HC _ HT.drew))
      (first | (go_at_call 35; refine (HCa _).mono ?_; rintro e w1 ⟨rfl, hb1⟩; (first | (have HT := HT.later hb1) | (have HT := HT.drew.later hb1))) | (go_at_call 35; refine (HCb _).mono ?_; rintro e w1 ⟨rfl, hb1⟩; (first | (have HT := HT.later hb1) | (have HT := HT.drew.later hb1))) | (go_at_call 53; refine (edgeBetween_any a0 a1 a2 a3 a4 a5 b0 b1 b3 b4 _).mono ?_; rintro e w1 ⟨d, a, g, rfl, hb1, e0, e1, e2, e3⟩; (first | (have HT := HT.later hb1) | (have HT := HT.drew.later hb1))))
    go_wp2_with fail
    go_ret
    exact ⟨_, _, _, rfl, HT.below, e0, e1, e2, e3⟩
end Go.Proofs.Ytjjafbcfmijppaa
