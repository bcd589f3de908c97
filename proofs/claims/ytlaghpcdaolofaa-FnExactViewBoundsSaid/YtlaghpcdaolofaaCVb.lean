/- Contracts of ViewBounds: the program and its model. -/
import Derived.Test.YtlaghpcdaolofaaProg
import Derived.Test.YtlaghpcdaolofaaInts
import Derived.Test.YtlaghpcdaolofaaVbox
import Derived.Test.YtlaghpcdaolofaaVec
import Derived.Test.YtlaghpcdaolofaaHeld
import Derived.Test.YtlaghpcdaolofaaBox
import Derived.Test.YtlaghpcdaolofaaCam
import Derived.WalkKit
import Derived.WalkSpells
import Derived.WalkLawsBesides
import Derived.Lib.Hide
import Derived.Deep.RegionHeld3
import Derived.Deep.QuietTactic
import Derived.BigQuiet
import Derived.Handy
import Derived.Deep.DeepCutAuto
namespace Go.Proofs.Ytlaghpcdaolofaa
open Go.RowKit

def vbV (k : Bool) (n : Int) : Int := if k = true then n else 0
def VbOut (k : Bool) (a b d : Int) (w : World) (e : Ending) (w' : World) : Prop := e = .returned (box 0 0 (vbV k d) (vbV k (a * 16 - 1)) (vbV k (b * 16 - 1)) (vbV k 1000000)) ∧ Below w.heap.size w w'
theorem ret_vb {a b d : Int} {k k' : Bool} (h : k = k') : Ending.returned (box 0 0 (vbV k d) (vbV k (a * 16 - 1)) (vbV k (b * 16 - 1)) (vbV k 1000000)) = .returned (box 0 0 (vbV k' d) (vbV k' (a * 16 - 1)) (vbV k' (b * 16 - 1)) (vbV k' 1000000)) := by rw [h]

set_option maxHeartbeats 4000000 in
theorem viewBounds_any (a b c d : Int) (e : Bool) (f g : Int) (w : World) :
    Calls Try.prog 17 #[cam a b c d e f g] w (VbOut (okC a b c d f g) a b d w) := by
  have HT : Held w ((w.alloc (.cells #[.int .i64 a, .int .i64 b, .int .i64 c, .int .i64 d, .bool e, .int .i64 f, .int .i64 g] 25)).alloc (.cells #[.int .i64 0, .int .i64 0, .int .i64 0, .int .i64 0, .int .i64 0, .int .i64 0] 40)) [(w.heap.size + 1, [.int .i64 0, .int .i64 0, .int .i64 0, .int .i64 0, .int .i64 0, .int .i64 0]), (w.heap.size, [.int .i64 a, .int .i64 b, .int .i64 c, .int .i64 d, .bool e, .int .i64 f, .int .i64 g])] := by
    have h := ((Held.nil w).new #[.int .i64 a, .int .i64 b, .int .i64 c, .int .i64 d, .bool e, .int .i64 f, .int .i64 g] 25).new #[.int .i64 0, .int .i64 0, .int .i64 0, .int .i64 0, .int .i64 0, .int .i64 0] 40
    simpa only [World.size_alloc] using h
  have HC : ∀ W, Held w W [(w.heap.size, [.int .i64 a, .int .i64 b, .int .i64 c, .int .i64 d, .bool e, .int .i64 f, .int .i64 g])] → (W.cell? ⟨w.heap.size, 0, none⟩ = some (.int .i64 a) ∧ W.cell? ⟨w.heap.size, 1, none⟩ = some (.int .i64 b) ∧ W.cell? ⟨w.heap.size, 2, none⟩ = some (.int .i64 c) ∧ W.cell? ⟨w.heap.size, 3, none⟩ = some (.int .i64 d) ∧ W.cell? ⟨w.heap.size, 4, none⟩ = some (.bool e) ∧ W.cell? ⟨w.heap.size, 5, none⟩ = some (.int .i64 f) ∧ W.cell? ⟨w.heap.size, 6, none⟩ = some (.int .i64 g)) := fun W h => ⟨(h.box 0).c 0, (h.box 0).c 1, (h.box 0).c 2, (h.box 0).c 3, (h.box 0).c 4, (h.box 0).c 5, (h.box 0).c 6⟩
  rcases hk : okC a b c d f g with _ | _
  · go_enter Try.func17, Try.ntmps17
    go_wp2_with fail
    refine (isValidCamera_any _ _ _ _ _ _ _ _).mono ?_
    rintro x1 w1 ⟨rfl, hb1⟩
    rw [hk]
    have HT := HT.later hb1
    clear hb1
    have r0 := (HT.box 0).c 0
    have r1 := (HT.box 0).c 1
    have r2 := (HT.box 0).c 2
    have r3 := (HT.box 0).c 3
    have r4 := (HT.box 0).c 4
    have r5 := (HT.box 0).c 5
    have g_0 := (HT.box 0).f 0
    have g_1 := (HT.box 0).f 1
    have g_2 := (HT.box 0).f 2
    have g_3 := (HT.box 0).f 3
    have g_4 := (HT.box 0).f 4
    have g_5 := (HT.box 0).f 5
    have HW := HT.below
    clear HT HC
    go_wp2_with fail
    exact bodyPost_ret (v := box 0 0 0 0 0 0) (by simp [results, Try.results17, go_sem, r0, r1, r2, r3, r4, r5]) rfl ⟨ret_vb (k := false) (a := a) (b := b) (d := d) rfl, bset6 HW (by omega)⟩
  · obtain ⟨⟨⟨ha0, ha1⟩, hb0, hb1_⟩, ⟨⟨hc0, hc1⟩, hd0, hd1⟩, ⟨hf0, hf1⟩, hg0, hg1⟩ := (okC_iff _ _ _ _ _ _).1 hk
    have wa : IntKind.i64.wrap (a * 16 - 1) = a * 16 - 1 := wrap_in (by omega)
    have wb : IntKind.i64.wrap (b * 16 - 1) = b * 16 - 1 := wrap_in (by omega)
    go_enter Try.func17, Try.ntmps17
    go_wp2_with fail
    refine (isValidCamera_any _ _ _ _ _ _ _ _).mono ?_
    rintro x1 w1 ⟨rfl, hb1⟩
    rw [hk]
    have HT := HT.later hb1
    clear hb1

    go_wp2_with fail
    go_region_held3 (fun w' => w'.cell? ⟨w.heap.size, 0, none⟩ = some (.int .i64 a) ∧ w'.cell? ⟨w.heap.size, 1, none⟩ = some (.int .i64 b) ∧ w'.cell? ⟨w.heap.size, 2, none⟩ = some (.int .i64 c) ∧ w'.cell? ⟨w.heap.size, 3, none⟩ = some (.int .i64 d) ∧ w'.cell? ⟨w.heap.size, 4, none⟩ = some (.bool e) ∧ w'.cell? ⟨w.heap.size, 5, none⟩ = some (.int .i64 f) ∧ w'.cell? ⟨w.heap.size, 6, none⟩ = some (.int .i64 g))
      (first | (with_reducible exact HC _ HT.tail) | (with_reducible exact HC _ HT.drew.tail) | (with_reducible exact HC _ (HT.tail.far6 (by omega) (by simp <;> omega) _ _ _ _ _ _)))
      (first | (go_at_call 28; refine (width_any _ _ _ _ _ _ _ ha0 ha1 _).mono ?_; rintro e w1 ⟨rfl, hb1⟩; (first | (have HT := HT.later hb1) | (have HT := HT.drew.later hb1)); have r0 := (HT.box 0).c 0; have g0_ := (HT.box 0).f 0; have r1 := (HT.box 0).c 1; have g1_ := (HT.box 0).f 1; have r2 := (HT.box 0).c 2; have g2_ := (HT.box 0).f 2; have r3 := (HT.box 0).c 3; have g3_ := (HT.box 0).f 3; have r4 := (HT.box 0).c 4; have g4_ := (HT.box 0).f 4; have r5 := (HT.box 0).c 5; have g5_ := (HT.box 0).f 5; have HW := HT.below) | (go_at_call 29; refine (height_any _ _ _ _ _ _ _ hb0 hb1_ _).mono ?_; rintro e w1 ⟨rfl, hb1⟩; (first | (have HT := HT.later hb1) | (have HT := HT.drew.later hb1)); have r0 := (HT.box 0).c 0; have g0_ := (HT.box 0).f 0; have r1 := (HT.box 0).c 1; have g1_ := (HT.box 0).f 1; have r2 := (HT.box 0).c 2; have g2_ := (HT.box 0).f 2; have r3 := (HT.box 0).c 3; have g3_ := (HT.box 0).f 3; have r4 := (HT.box 0).c 4; have g4_ := (HT.box 0).f 4; have r5 := (HT.box 0).c 5; have g5_ := (HT.box 0).f 5; have HW := HT.below))
    go_wp2
    exact bodyPost_ret (v := box 0 0 d (a * 16 - 1) (b * 16 - 1) 1000000) (by simp [results, Try.results17, go_sem, r0, r1, r2, r3, r4, r5]) rfl ⟨ret_vb (k := true) (a := a) (b := b) (d := d) rfl, bset6 HW (by omega)⟩

set_option maxHeartbeats 4000000 in
theorem sViewBounds_any (a b c d : Int) (e : Bool) (f g : Int) (w : World) :
    Calls Try.prog 16 #[cam a b c d e f g] w (VbOut (okC a b c d f g) a b d w) := by
  have HT : Held w ((w.alloc (.cells #[.int .i64 a, .int .i64 b, .int .i64 c, .int .i64 d, .bool e, .int .i64 f, .int .i64 g] 25)).alloc (.cells #[.int .i64 0, .int .i64 0, .int .i64 0, .int .i64 0, .int .i64 0, .int .i64 0] 40)) [(w.heap.size + 1, [.int .i64 0, .int .i64 0, .int .i64 0, .int .i64 0, .int .i64 0, .int .i64 0]), (w.heap.size, [.int .i64 a, .int .i64 b, .int .i64 c, .int .i64 d, .bool e, .int .i64 f, .int .i64 g])] := by
    have h := ((Held.nil w).new #[.int .i64 a, .int .i64 b, .int .i64 c, .int .i64 d, .bool e, .int .i64 f, .int .i64 g] 25).new #[.int .i64 0, .int .i64 0, .int .i64 0, .int .i64 0, .int .i64 0, .int .i64 0] 40
    simpa only [World.size_alloc] using h
  have HC : ∀ W, Held w W [(w.heap.size, [.int .i64 a, .int .i64 b, .int .i64 c, .int .i64 d, .bool e, .int .i64 f, .int .i64 g])] → (W.cell? ⟨w.heap.size, 0, none⟩ = some (.int .i64 a) ∧ W.cell? ⟨w.heap.size, 1, none⟩ = some (.int .i64 b) ∧ W.cell? ⟨w.heap.size, 2, none⟩ = some (.int .i64 c) ∧ W.cell? ⟨w.heap.size, 3, none⟩ = some (.int .i64 d) ∧ W.cell? ⟨w.heap.size, 4, none⟩ = some (.bool e) ∧ W.cell? ⟨w.heap.size, 5, none⟩ = some (.int .i64 f) ∧ W.cell? ⟨w.heap.size, 6, none⟩ = some (.int .i64 g)) := fun W h => ⟨(h.box 0).c 0, (h.box 0).c 1, (h.box 0).c 2, (h.box 0).c 3, (h.box 0).c 4, (h.box 0).c 5, (h.box 0).c 6⟩
  rcases hk : okC a b c d f g with _ | _
  · go_enter Try.func16, Try.ntmps16
    go_wp2_with fail
    refine (sIsValidCamera_any _ _ _ _ _ _ _ _).mono ?_
    rintro x1 w1 ⟨rfl, hb1⟩
    rw [hk]
    have HT := HT.later hb1
    clear hb1
    have r0 := (HT.box 0).c 0
    have r1 := (HT.box 0).c 1
    have r2 := (HT.box 0).c 2
    have r3 := (HT.box 0).c 3
    have r4 := (HT.box 0).c 4
    have r5 := (HT.box 0).c 5
    have g_0 := (HT.box 0).f 0
    have g_1 := (HT.box 0).f 1
    have g_2 := (HT.box 0).f 2
    have g_3 := (HT.box 0).f 3
    have g_4 := (HT.box 0).f 4
    have g_5 := (HT.box 0).f 5
    have HW := HT.below
    clear HT HC
    go_wp2_with fail
    exact bodyPost_ret (v := box 0 0 0 0 0 0) (by simp [results, Try.results16, go_sem, r0, r1, r2, r3, r4, r5]) rfl ⟨ret_vb (k := false) (a := a) (b := b) (d := d) rfl, bset6 HW (by omega)⟩
  · obtain ⟨⟨⟨ha0, ha1⟩, hb0, hb1_⟩, ⟨⟨hc0, hc1⟩, hd0, hd1⟩, ⟨hf0, hf1⟩, hg0, hg1⟩ := (okC_iff _ _ _ _ _ _).1 hk
    skip
    skip
    go_enter Try.func16, Try.ntmps16
    go_wp2_with fail
    refine (sIsValidCamera_any _ _ _ _ _ _ _ _).mono ?_
    rintro x1 w1 ⟨rfl, hb1⟩
    rw [hk]
    have HT := HT.later hb1
    clear hb1
    have r0 := (HT.box 0).c 0
    have r1 := (HT.box 0).c 1
    have r2 := (HT.box 0).c 2
    have r3 := (HT.box 0).c 3
    have r4 := (HT.box 0).c 4
    have r5 := (HT.box 0).c 5
    have g_0 := (HT.box 0).f 0
    have g_1 := (HT.box 0).f 1
    have g_2 := (HT.box 0).f 2
    have g_3 := (HT.box 0).f 3
    have g_4 := (HT.box 0).f 4
    have g_5 := (HT.box 0).f 5
    have c0 := (HT.box 1).c 0
    have c1 := (HT.box 1).c 1
    have c2 := (HT.box 1).c 2
    have c3 := (HT.box 1).c 3
    have c4 := (HT.box 1).c 4
    have c5 := (HT.box 1).c 5
    have c6 := (HT.box 1).c 6
    have HW := HT.below
    go_wp2_with fail
    skip
    exact bodyPost_ret (v := box 0 0 d (a * 16 - 1) (b * 16 - 1) 1000000) (by simp [results, Try.results16, go_sem, r0, r1, r2, r3, r4, r5]) rfl ⟨ret_vb (k := true) (a := a) (b := b) (d := d) rfl, bset6 HW (by omega)⟩
end Go.Proofs.Ytlaghpcdaolofaa
