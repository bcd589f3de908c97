/- Contracts of the laws own helpers on transforms. -/
import Derived.Test.YtjflkapdnnecjaaProg
import Derived.Test.YtjflkapdnnecjaaInts
import Derived.Test.YtjflkapdnnecjaaVbox
import Derived.Test.YtjflkapdnnecjaaVec
import Derived.Test.YtjflkapdnnecjaaHeld
import Derived.Test.YtjflkapdnnecjaaArr
import Derived.Test.YtjflkapdnnecjaaTr
import Derived.WalkKit
import Derived.WalkSpells
import Derived.WalkLawsBesides
import Derived.Lib.Hide
import Derived.Deep.RegionHeld3
import Derived.Deep.QuietTactic
import Derived.BigQuiet
import Derived.Handy
import Derived.Deep.DeepCutAuto
namespace Go.Proofs.Ytjflkapdnnecjaa
open Go.RowKit
theorem bset3o {B k i j l : Nat} {a W : World} {u v x : Value} (h : Below B a W) (hk : B ≤ k) : Below B a (((W.setCell ⟨k, i, none⟩ u).setCell ⟨k, j, none⟩ v).setCell ⟨k, l, none⟩ x) :=
  ((h.setCell (p := ⟨k, i, none⟩) hk u).setCell (p := ⟨k, j, none⟩) hk v).setCell (p := ⟨k, l, none⟩) hk x

set_option maxHeartbeats 2000000 in
theorem toIntA9_any (a0 a1 a2 a3 a4 a5 a6 a7 a8 : Int) (w : World) :
    Calls Try.prog 77 #[mat a0 a1 a2 a3 a4 a5 a6 a7 a8] w (MatOut a0 a1 a2 a3 a4 a5 a6 a7 a8 w) := by
  have HT : Held w (((w.alloc (.cells #[.int .i64 a0, .int .i64 a1, .int .i64 a2, .int .i64 a3, .int .i64 a4, .int .i64 a5, .int .i64 a6, .int .i64 a7, .int .i64 a8] 88)).alloc (.cells #[.int .i64 0, .int .i64 0, .int .i64 0, .int .i64 0, .int .i64 0, .int .i64 0, .int .i64 0, .int .i64 0, .int .i64 0] 88)).alloc (.cells #[.int .i64 0, .int .i64 0, .int .i64 0, .int .i64 0, .int .i64 0, .int .i64 0, .int .i64 0, .int .i64 0, .int .i64 0] 88)) [(w.heap.size + 2, [.int .i64 0, .int .i64 0, .int .i64 0, .int .i64 0, .int .i64 0, .int .i64 0, .int .i64 0, .int .i64 0, .int .i64 0]), (w.heap.size + 1, [.int .i64 0, .int .i64 0, .int .i64 0, .int .i64 0, .int .i64 0, .int .i64 0, .int .i64 0, .int .i64 0, .int .i64 0]), (w.heap.size, [.int .i64 a0, .int .i64 a1, .int .i64 a2, .int .i64 a3, .int .i64 a4, .int .i64 a5, .int .i64 a6, .int .i64 a7, .int .i64 a8])] := by
    have h := (((Held.nil w).new #[.int .i64 a0, .int .i64 a1, .int .i64 a2, .int .i64 a3, .int .i64 a4, .int .i64 a5, .int .i64 a6, .int .i64 a7, .int .i64 a8] 88).new #[.int .i64 0, .int .i64 0, .int .i64 0, .int .i64 0, .int .i64 0, .int .i64 0, .int .i64 0, .int .i64 0, .int .i64 0] 88).new #[.int .i64 0, .int .i64 0, .int .i64 0, .int .i64 0, .int .i64 0, .int .i64 0, .int .i64 0, .int .i64 0, .int .i64 0] 88
    simpa only [World.size_alloc] using h
  obtain ⟨xs, hxs⟩ : ∃ xs, xs = [a0, a1, a2, a3, a4, a5, a6, a7, a8] := ⟨_, rfl⟩
  have hlen : xs.length = 9 := by rw [hxs]; rfl
  have HT : Held w (((w.alloc (.cells #[.int .i64 a0, .int .i64 a1, .int .i64 a2, .int .i64 a3, .int .i64 a4, .int .i64 a5, .int .i64 a6, .int .i64 a7, .int .i64 a8] 88)).alloc (.cells #[.int .i64 0, .int .i64 0, .int .i64 0, .int .i64 0, .int .i64 0, .int .i64 0, .int .i64 0, .int .i64 0, .int .i64 0] 88)).alloc (.cells #[.int .i64 0, .int .i64 0, .int .i64 0, .int .i64 0, .int .i64 0, .int .i64 0, .int .i64 0, .int .i64 0, .int .i64 0] 88)) [(w.heap.size + 2, ints (part2 (List.replicate 9 0) xs 0)), (w.heap.size + 1, [.int .i64 0, .int .i64 0, .int .i64 0, .int .i64 0, .int .i64 0, .int .i64 0, .int .i64 0, .int .i64 0, .int .i64 0]), (w.heap.size, ints xs)] := by rw [hxs]; exact HT
  have HX := Lib.hid hxs
  clear hxs
  go_enter Try.func77, Try.ntmps77
  go_wp2
  go_loopw [4] (fun i wr => ∃ k : Nat, k ≤ 9 ∧ i = .int .i64 k ∧ Held w wr [(w.heap.size + 2, ints (part2 (List.replicate 9 0) xs k)), (w.heap.size + 1, [.int .i64 0, .int .i64 0, .int .i64 0, .int .i64 0, .int .i64 0, .int .i64 0, .int .i64 0, .int .i64 0, .int .i64 0]), (w.heap.size, ints xs)]) (fun i _ => 9 - (intOf i).toNat)
  case atStart => exact ⟨0, Nat.zero_le _, rfl, HT⟩
  case round =>
    clear HT
    obtain ⟨k, hk, rfl, HT⟩ := hrel
    by_cases hlt : k < 9
    · have hv := List.getElem?_eq_getElem (show k < xs.length by omega)
      have he := part2_at (xs := List.replicate 9 0) (ys := xs) (by simp [hlen]) (k := k) (by simp; omega)
      have hs := part2_step (xs := List.replicate 9 0) (ys := xs) (by simp [hlen]) (k := k) (by omega)
      generalize xs[k]'(by omega) = v at hv hs
      generalize (List.replicate 9 (0 : Int))[k]'(by simp; omega) = u at he
      have c0 := (HT.box 2).int hv
      have d0 := (HT.box 0).int he
      have f0 := (HT.box 0).intF he
      have hlt' : (k : Int) < 9 := by omega
      have hge' : (0 : Int) ≤ (k : Int) := by omega
      have HP := HT.put (by omega) (by simp <;> omega) k (.int .i64 v)
      rw [ints_set, hs] at HP
      have HS := Lib.hid HP
      clear HT HP hv he hs
      go_wp2
      go_roundw
      case rel => exact ⟨k + 1, by omega, by go_num, HS.out⟩
      case measure => simp [intOf]; omega
    · have e : k = 9 := by omega
      subst e
      have HT : Held w wr [(w.heap.size + 2, [.int .i64 a0, .int .i64 a1, .int .i64 a2, .int .i64 a3, .int .i64 a4, .int .i64 a5, .int .i64 a6, .int .i64 a7, .int .i64 a8]), (w.heap.size + 1, [.int .i64 0, .int .i64 0, .int .i64 0, .int .i64 0, .int .i64 0, .int .i64 0, .int .i64 0, .int .i64 0, .int .i64 0])] := by
        have h := HT.pick (cs := [(w.heap.size + 2, ints (part2 (List.replicate 9 0) xs 9)), (w.heap.size + 1, [.int .i64 0, .int .i64 0, .int .i64 0, .int .i64 0, .int .i64 0, .int .i64 0, .int .i64 0, .int .i64 0, .int .i64 0])]) (by simp)
        rw [HX.out] at h
        exact h
      have c0 := (HT.box 0).c 0
      have c1 := (HT.box 0).c 1
      have c2 := (HT.box 0).c 2
      have c3 := (HT.box 0).c 3
      have c4 := (HT.box 0).c 4
      have c5 := (HT.box 0).c 5
      have c6 := (HT.box 0).c 6
      have c7 := (HT.box 0).c 7
      have c8 := (HT.box 0).c 8
      have r0 := (HT.box 1).c 0
      have r1 := (HT.box 1).c 1
      have r2 := (HT.box 1).c 2
      have r3 := (HT.box 1).c 3
      have r4 := (HT.box 1).c 4
      have r5 := (HT.box 1).c 5
      have r6 := (HT.box 1).c 6
      have r7 := (HT.box 1).c 7
      have r8 := (HT.box 1).c 8
      have g0 := (HT.box 1).f 0
      have g1 := (HT.box 1).f 1
      have g2 := (HT.box 1).f 2
      have g3 := (HT.box 1).f 3
      have g4 := (HT.box 1).f 4
      have g5 := (HT.box 1).f 5
      have g6 := (HT.box 1).f 6
      have g7 := (HT.box 1).f 7
      have g8 := (HT.box 1).f 8
      have HW := HT.below
      clear HT
      clear hlt hk hlen HX
      go_wp2_with fail
      exact bodyPost_ret (v := mat a0 a1 a2 a3 a4 a5 a6 a7 a8) (by simp [results, Try.results77, go_sem, r0, r1, r2, r3, r4, r5, r6, r7, r8]) rfl ⟨rfl, bset_far9 HW (by omega)⟩

set_option maxHeartbeats 2000000 in
theorem eqIntA9_same (a0 a1 a2 a3 a4 a5 a6 a7 a8 : Int) (w : World) :
    Calls Try.prog 79 #[mat a0 a1 a2 a3 a4 a5 a6 a7 a8, mat a0 a1 a2 a3 a4 a5 a6 a7 a8] w (BOut true w) := by
  have HT : Held w ((w.alloc (.cells #[.int .i64 a0, .int .i64 a1, .int .i64 a2, .int .i64 a3, .int .i64 a4, .int .i64 a5, .int .i64 a6, .int .i64 a7, .int .i64 a8] 88)).alloc (.cells #[.int .i64 a0, .int .i64 a1, .int .i64 a2, .int .i64 a3, .int .i64 a4, .int .i64 a5, .int .i64 a6, .int .i64 a7, .int .i64 a8] 88)) [(w.heap.size + 1, [.int .i64 a0, .int .i64 a1, .int .i64 a2, .int .i64 a3, .int .i64 a4, .int .i64 a5, .int .i64 a6, .int .i64 a7, .int .i64 a8]), (w.heap.size, [.int .i64 a0, .int .i64 a1, .int .i64 a2, .int .i64 a3, .int .i64 a4, .int .i64 a5, .int .i64 a6, .int .i64 a7, .int .i64 a8])] := by
    have h := ((Held.nil w).new #[.int .i64 a0, .int .i64 a1, .int .i64 a2, .int .i64 a3, .int .i64 a4, .int .i64 a5, .int .i64 a6, .int .i64 a7, .int .i64 a8] 88).new #[.int .i64 a0, .int .i64 a1, .int .i64 a2, .int .i64 a3, .int .i64 a4, .int .i64 a5, .int .i64 a6, .int .i64 a7, .int .i64 a8] 88
    simpa only [World.size_alloc] using h
  obtain ⟨xs, hxs⟩ : ∃ xs, xs = [a0, a1, a2, a3, a4, a5, a6, a7, a8] := ⟨_, rfl⟩
  have hlen : xs.length = 9 := by rw [hxs]; rfl
  have HT : Held w ((w.alloc (.cells #[.int .i64 a0, .int .i64 a1, .int .i64 a2, .int .i64 a3, .int .i64 a4, .int .i64 a5, .int .i64 a6, .int .i64 a7, .int .i64 a8] 88)).alloc (.cells #[.int .i64 a0, .int .i64 a1, .int .i64 a2, .int .i64 a3, .int .i64 a4, .int .i64 a5, .int .i64 a6, .int .i64 a7, .int .i64 a8] 88)) [(w.heap.size + 1, ints xs), (w.heap.size, ints xs)] := by rw [hxs]; exact HT
  clear hxs
  go_enter Try.func79, Try.ntmps79
  go_wp2
  go_loopw [5] (fun i wr => ∃ k : Nat, k ≤ 9 ∧ i = .int .i64 k ∧ Held w wr [(w.heap.size + 1, ints xs), (w.heap.size, ints xs)]) (fun i _ => 9 - (intOf i).toNat)
  case atStart => exact ⟨0, Nat.zero_le _, rfl, HT⟩
  case round =>
    clear HT
    obtain ⟨k, hk, rfl, HT⟩ := hrel
    by_cases hlt : k < 9
    · have hv := List.getElem?_eq_getElem (show k < xs.length by omega)
      generalize xs[k]'(by omega) = v at hv
      have c0 := (HT.box 0).int hv
      have d0 := (HT.box 1).int hv
      have hlt' : (k : Int) < 9 := by omega
      have hge' : (0 : Int) ≤ (k : Int) := by omega
      have HS := Lib.hid HT
      clear HT hv
      go_wp2_with fail
      go_region
      go_wp2
      go_roundw
      case rel => exact ⟨k + 1, by omega, by go_num, by first | exact HS.out | exact HS.out.drew⟩
      case measure => simp [intOf]; omega
    · go_wp2
      go_ret
      exact ⟨rfl, HT.below⟩

set_option maxHeartbeats 2000000 in
theorem toTransform_any (a0 a1 a2 a3 a4 a5 a6 a7 a8 x y z : Int) (w : World) :
    Calls Try.prog 61 #[tr a0 a1 a2 a3 a4 a5 a6 a7 a8 x y z] w (TrOut a0 a1 a2 a3 a4 a5 a6 a7 a8 x y z w) := by
  have HT : Held w (((w.alloc (.cells #[.int .i64 a0, .int .i64 a1, .int .i64 a2, .int .i64 a3, .int .i64 a4, .int .i64 a5, .int .i64 a6, .int .i64 a7, .int .i64 a8, .int .i64 x, .int .i64 y, .int .i64 z] 93)).alloc (.cells #[.int .i64 0, .int .i64 0, .int .i64 0, .int .i64 0, .int .i64 0, .int .i64 0, .int .i64 0, .int .i64 0, .int .i64 0, .int .i64 0, .int .i64 0, .int .i64 0] 90)).alloc (.cells #[.int .i64 0, .int .i64 0, .int .i64 0, .int .i64 0, .int .i64 0, .int .i64 0, .int .i64 0, .int .i64 0, .int .i64 0, .int .i64 0, .int .i64 0, .int .i64 0] 90)) [(w.heap.size + 2, [.int .i64 0, .int .i64 0, .int .i64 0, .int .i64 0, .int .i64 0, .int .i64 0, .int .i64 0, .int .i64 0, .int .i64 0, .int .i64 0, .int .i64 0, .int .i64 0]), (w.heap.size + 1, [.int .i64 0, .int .i64 0, .int .i64 0, .int .i64 0, .int .i64 0, .int .i64 0, .int .i64 0, .int .i64 0, .int .i64 0, .int .i64 0, .int .i64 0, .int .i64 0]), (w.heap.size, [.int .i64 a0, .int .i64 a1, .int .i64 a2, .int .i64 a3, .int .i64 a4, .int .i64 a5, .int .i64 a6, .int .i64 a7, .int .i64 a8, .int .i64 x, .int .i64 y, .int .i64 z])] := by
    have h := (((Held.nil w).new #[.int .i64 a0, .int .i64 a1, .int .i64 a2, .int .i64 a3, .int .i64 a4, .int .i64 a5, .int .i64 a6, .int .i64 a7, .int .i64 a8, .int .i64 x, .int .i64 y, .int .i64 z] 93).new #[.int .i64 0, .int .i64 0, .int .i64 0, .int .i64 0, .int .i64 0, .int .i64 0, .int .i64 0, .int .i64 0, .int .i64 0, .int .i64 0, .int .i64 0, .int .i64 0] 90).new #[.int .i64 0, .int .i64 0, .int .i64 0, .int .i64 0, .int .i64 0, .int .i64 0, .int .i64 0, .int .i64 0, .int .i64 0, .int .i64 0, .int .i64 0, .int .i64 0] 90
    simpa only [World.size_alloc] using h
  go_enter Try.func61, Try.ntmps61
  go_wp2_with fail
  refine (toIntA9_any _ _ _ _ _ _ _ _ _ _).mono ?_
  rintro e w1 ⟨rfl, hb1⟩
  have HT := (HT.later hb1)
  clear hb1
  have c0 := (HT.box 2).c 0
  have c1 := (HT.box 2).c 1
  have c2 := (HT.box 2).c 2
  have c3 := (HT.box 2).c 3
  have c4 := (HT.box 2).c 4
  have c5 := (HT.box 2).c 5
  have c6 := (HT.box 2).c 6
  have c7 := (HT.box 2).c 7
  have c8 := (HT.box 2).c 8
  have c9 := (HT.box 2).c 9
  have c10 := (HT.box 2).c 10
  have c11 := (HT.box 2).c 11
  have d0 := (HT.box 0).c 0
  have d1 := (HT.box 0).c 1
  have d2 := (HT.box 0).c 2
  have d3 := (HT.box 0).c 3
  have d4 := (HT.box 0).c 4
  have d5 := (HT.box 0).c 5
  have d6 := (HT.box 0).c 6
  have d7 := (HT.box 0).c 7
  have d8 := (HT.box 0).c 8
  have d9 := (HT.box 0).c 9
  have d10 := (HT.box 0).c 10
  have d11 := (HT.box 0).c 11
  have f0 := (HT.box 0).f 0
  have f1 := (HT.box 0).f 1
  have f2 := (HT.box 0).f 2
  have f3 := (HT.box 0).f 3
  have f4 := (HT.box 0).f 4
  have f5 := (HT.box 0).f 5
  have f6 := (HT.box 0).f 6
  have f7 := (HT.box 0).f 7
  have f8 := (HT.box 0).f 8
  have f9 := (HT.box 0).f 9
  have f10 := (HT.box 0).f 10
  have f11 := (HT.box 0).f 11
  have HT1 := HT.putM (by omega) (by simp) (.int .i64 a0) (.int .i64 a1) (.int .i64 a2) (.int .i64 a3) (.int .i64 a4) (.int .i64 a5) (.int .i64 a6) (.int .i64 a7) (.int .i64 a8)
  have HS := Lib.hid HT1
  clear HT1 HT
  go_wp2_with fail
  refine (toVec_any _ _ _ _).mono ?_
  rintro e w2 ⟨rfl, hb2⟩
  have HT := HS.out.later hb2
  clear hb2 HS c0 c1 c2 c3 c4 c5 c6 c7 c8 c9 c10 c11 d0 d1 d2 d3 d4 d5 d6 d7 d8 d9 d10 d11 f0 f1 f2 f3 f4 f5 f6 f7 f8 f9 f10 f11
  have d0 := (HT.box 0).c 0
  have d1 := (HT.box 0).c 1
  have d2 := (HT.box 0).c 2
  have d3 := (HT.box 0).c 3
  have d4 := (HT.box 0).c 4
  have d5 := (HT.box 0).c 5
  have d6 := (HT.box 0).c 6
  have d7 := (HT.box 0).c 7
  have d8 := (HT.box 0).c 8
  have d9 := (HT.box 0).c 9
  have d10 := (HT.box 0).c 10
  have d11 := (HT.box 0).c 11
  have f0 := (HT.box 0).f 0
  have f1 := (HT.box 0).f 1
  have f2 := (HT.box 0).f 2
  have f3 := (HT.box 0).f 3
  have f4 := (HT.box 0).f 4
  have f5 := (HT.box 0).f 5
  have f6 := (HT.box 0).f 6
  have f7 := (HT.box 0).f 7
  have f8 := (HT.box 0).f 8
  have f9 := (HT.box 0).f 9
  have f10 := (HT.box 0).f 10
  have f11 := (HT.box 0).f 11
  have r0 := (HT.box 1).c 0
  have r1 := (HT.box 1).c 1
  have r2 := (HT.box 1).c 2
  have r3 := (HT.box 1).c 3
  have r4 := (HT.box 1).c 4
  have r5 := (HT.box 1).c 5
  have r6 := (HT.box 1).c 6
  have r7 := (HT.box 1).c 7
  have r8 := (HT.box 1).c 8
  have r9 := (HT.box 1).c 9
  have r10 := (HT.box 1).c 10
  have r11 := (HT.box 1).c 11
  have g0 := (HT.box 1).f 0
  have g1 := (HT.box 1).f 1
  have g2 := (HT.box 1).f 2
  have g3 := (HT.box 1).f 3
  have g4 := (HT.box 1).f 4
  have g5 := (HT.box 1).f 5
  have g6 := (HT.box 1).f 6
  have g7 := (HT.box 1).f 7
  have g8 := (HT.box 1).f 8
  have g9 := (HT.box 1).f 9
  have g10 := (HT.box 1).f 10
  have g11 := (HT.box 1).f 11
  have HW := HT.below
  clear HT
  go_wp2_with fail
  exact bodyPost_ret (v := tr a0 a1 a2 a3 a4 a5 a6 a7 a8 x y z) (by simp [results, Try.results61, go_sem, r0, r1, r2, r3, r4, r5, r6, r7, r8, r9, r10, r11]) rfl ⟨rfl, bset_far12 (bset3o HW (by omega)) (by omega)⟩

set_option maxHeartbeats 2000000 in
theorem eqTransform_same (a0 a1 a2 a3 a4 a5 a6 a7 a8 x y z : Int) (w : World) :
    Calls Try.prog 64 #[tr a0 a1 a2 a3 a4 a5 a6 a7 a8 x y z, tr a0 a1 a2 a3 a4 a5 a6 a7 a8 x y z] w (BOut true w) := by
  have HT : Held w ((w.alloc (.cells #[.int .i64 a0, .int .i64 a1, .int .i64 a2, .int .i64 a3, .int .i64 a4, .int .i64 a5, .int .i64 a6, .int .i64 a7, .int .i64 a8, .int .i64 x, .int .i64 y, .int .i64 z] 90)).alloc (.cells #[.int .i64 a0, .int .i64 a1, .int .i64 a2, .int .i64 a3, .int .i64 a4, .int .i64 a5, .int .i64 a6, .int .i64 a7, .int .i64 a8, .int .i64 x, .int .i64 y, .int .i64 z] 90)) [(w.heap.size + 1, [.int .i64 a0, .int .i64 a1, .int .i64 a2, .int .i64 a3, .int .i64 a4, .int .i64 a5, .int .i64 a6, .int .i64 a7, .int .i64 a8, .int .i64 x, .int .i64 y, .int .i64 z]), (w.heap.size, [.int .i64 a0, .int .i64 a1, .int .i64 a2, .int .i64 a3, .int .i64 a4, .int .i64 a5, .int .i64 a6, .int .i64 a7, .int .i64 a8, .int .i64 x, .int .i64 y, .int .i64 z])] := by
    have h := ((Held.nil w).new #[.int .i64 a0, .int .i64 a1, .int .i64 a2, .int .i64 a3, .int .i64 a4, .int .i64 a5, .int .i64 a6, .int .i64 a7, .int .i64 a8, .int .i64 x, .int .i64 y, .int .i64 z] 90).new #[.int .i64 a0, .int .i64 a1, .int .i64 a2, .int .i64 a3, .int .i64 a4, .int .i64 a5, .int .i64 a6, .int .i64 a7, .int .i64 a8, .int .i64 x, .int .i64 y, .int .i64 z] 90
    simpa only [World.size_alloc] using h
  go_enter Try.func64, Try.ntmps64
  go_wp2_with fail
  refine (eqIntA9_same _ _ _ _ _ _ _ _ _ _).mono ?_
  rintro e w1 ⟨rfl, hb1⟩
  have HT := (HT.later hb1)
  clear hb1
  have c0 := (HT.box 1).c 0
  have c1 := (HT.box 1).c 1
  have c2 := (HT.box 1).c 2
  have c3 := (HT.box 1).c 3
  have c4 := (HT.box 1).c 4
  have c5 := (HT.box 1).c 5
  have c6 := (HT.box 1).c 6
  have c7 := (HT.box 1).c 7
  have c8 := (HT.box 1).c 8
  have c9 := (HT.box 1).c 9
  have c10 := (HT.box 1).c 10
  have c11 := (HT.box 1).c 11
  have d0 := (HT.box 0).c 0
  have d1 := (HT.box 0).c 1
  have d2 := (HT.box 0).c 2
  have d3 := (HT.box 0).c 3
  have d4 := (HT.box 0).c 4
  have d5 := (HT.box 0).c 5
  have d6 := (HT.box 0).c 6
  have d7 := (HT.box 0).c 7
  have d8 := (HT.box 0).c 8
  have d9 := (HT.box 0).c 9
  have d10 := (HT.box 0).c 10
  have d11 := (HT.box 0).c 11
  go_wp2_with fail
  refine (eqVec_same _ _ _ _).mono ?_
  rintro e w2 ⟨rfl, hb2⟩
  have HT := (HT.later hb2)
  clear hb2
  clear c0 c1 c2 c3 c4 c5 c6 c7 c8 c9 c10 c11 d0 d1 d2 d3 d4 d5 d6 d7 d8 d9 d10 d11
  go_wp2_with fail
  go_ret
  exact ⟨rfl, HT.below⟩
end Go.Proofs.Ytjflkapdnnecjaa
