/- Contracts of the laws own helpers on transforms. -/
import Derived.Test.YtjflkapdnnecjaaDoorProg
import Derived.Test.YtjflkapdnnecjaaDoorInts
import Derived.Test.YtjflkapdnnecjaaDoorVbox
import Derived.Test.YtjflkapdnnecjaaDoorVec
import Derived.Test.YtjflkapdnnecjaaDoorHeld
import Derived.Test.YtjflkapdnnecjaaDoorArr
import Derived.Test.YtjflkapdnnecjaaDoorTr
import Derived.WalkKit
import Derived.WalkSpells
import Derived.WalkLawsBesides
import Derived.Lib.Hide
import Derived.Deep.RegionHeld3
import Derived.Deep.QuietTactic
import Derived.BigQuiet
import Derived.Handy
import Derived.Deep.DeepCutAuto
namespace Go.Proofs.YtjflkapdnnecjaaDoor
open Go.RowKit
theorem bset3o {B k i j l : Nat} {a W : World} {u v x : Value} (h : Below B a W) (hk : B ≤ k) : Below B a (((W.setCell ⟨k, i, none⟩ u).setCell ⟨k, j, none⟩ v).setCell ⟨k, l, none⟩ x) :=
  ((h.setCell (p := ⟨k, i, none⟩) hk u).setCell (p := ⟨k, j, none⟩) hk v).setCell (p := ⟨k, l, none⟩) hk x


set_option maxHeartbeats 2000000 in
theorem eqIntA9_same (a0 a1 a2 a3 a4 a5 a6 a7 a8 : Int) (w : World) :
    Calls Tryd.prog 34 #[mat a0 a1 a2 a3 a4 a5 a6 a7 a8, mat a0 a1 a2 a3 a4 a5 a6 a7 a8] w (BOut true w) := by
  have HT : Held w ((w.alloc (.cells #[.int .i64 a0, .int .i64 a1, .int .i64 a2, .int .i64 a3, .int .i64 a4, .int .i64 a5, .int .i64 a6, .int .i64 a7, .int .i64 a8] 22)).alloc (.cells #[.int .i64 a0, .int .i64 a1, .int .i64 a2, .int .i64 a3, .int .i64 a4, .int .i64 a5, .int .i64 a6, .int .i64 a7, .int .i64 a8] 22)) [(w.heap.size + 1, [.int .i64 a0, .int .i64 a1, .int .i64 a2, .int .i64 a3, .int .i64 a4, .int .i64 a5, .int .i64 a6, .int .i64 a7, .int .i64 a8]), (w.heap.size, [.int .i64 a0, .int .i64 a1, .int .i64 a2, .int .i64 a3, .int .i64 a4, .int .i64 a5, .int .i64 a6, .int .i64 a7, .int .i64 a8])] := by
    have h := ((Held.nil w).new #[.int .i64 a0, .int .i64 a1, .int .i64 a2, .int .i64 a3, .int .i64 a4, .int .i64 a5, .int .i64 a6, .int .i64 a7, .int .i64 a8] 22).new #[.int .i64 a0, .int .i64 a1, .int .i64 a2, .int .i64 a3, .int .i64 a4, .int .i64 a5, .int .i64 a6, .int .i64 a7, .int .i64 a8] 22
    simpa only [World.size_alloc] using h
  obtain ⟨xs, hxs⟩ : ∃ xs, xs = [a0, a1, a2, a3, a4, a5, a6, a7, a8] := ⟨_, rfl⟩
  have hlen : xs.length = 9 := by rw [hxs]; rfl
  have HT : Held w ((w.alloc (.cells #[.int .i64 a0, .int .i64 a1, .int .i64 a2, .int .i64 a3, .int .i64 a4, .int .i64 a5, .int .i64 a6, .int .i64 a7, .int .i64 a8] 22)).alloc (.cells #[.int .i64 a0, .int .i64 a1, .int .i64 a2, .int .i64 a3, .int .i64 a4, .int .i64 a5, .int .i64 a6, .int .i64 a7, .int .i64 a8] 22)) [(w.heap.size + 1, ints xs), (w.heap.size, ints xs)] := by rw [hxs]; exact HT
  clear hxs
  go_enter Tryd.func34, Tryd.ntmps34
  go_wp2
  go_loopw [5] (fun i wr => ∃ k : Nat, k ≤ 9 ∧ i = .int .i64 k ∧ Held w wr [(w.heap.size + 1, ints xs), (w.heap.size, ints xs)]) (fun i _ => 9 - (intOf i).toNat)
  case atStart => exact ⟨0, Nat.zero_le _, rfl, HT⟩
  case round =>
    clear HT
    obtain ⟨k, hk, rfl, HT⟩ := hrel
    by_cases hlt : k < 9
    · have hv := List.getElem?_eq_getElem (show k < xs.length by omega)
      generalize xs[k]'(by omega) = v at hv
      have c0 := (HT.box 0).int hv
      have d0 := (HT.box 1).int hv
      have hlt' : (k : Int) < 9 := by omega
      have hge' : (0 : Int) ≤ (k : Int) := by omega
      have HS := Lib.hid HT
      clear HT hv
      go_wp2_with fail
      go_region
      go_wp2
      go_roundw
      case rel => exact ⟨k + 1, by omega, by go_num, by first | exact HS.out | exact HS.out.drew⟩
      case measure => simp [intOf]; omega
    · go_wp2
      go_ret
      exact ⟨rfl, HT.below⟩


set_option maxHeartbeats 2000000 in
theorem eqTransform_same (a0 a1 a2 a3 a4 a5 a6 a7 a8 x y z : Int) (w : World) :
    Calls Tryd.prog 8 #[tr a0 a1 a2 a3 a4 a5 a6 a7 a8 x y z, tr a0 a1 a2 a3 a4 a5 a6 a7 a8 x y z] w (BOut true w) := by
  have HT : Held w ((w.alloc (.cells #[.int .i64 a0, .int .i64 a1, .int .i64 a2, .int .i64 a3, .int .i64 a4, .int .i64 a5, .int .i64 a6, .int .i64 a7, .int .i64 a8, .int .i64 x, .int .i64 y, .int .i64 z] 26)).alloc (.cells #[.int .i64 a0, .int .i64 a1, .int .i64 a2, .int .i64 a3, .int .i64 a4, .int .i64 a5, .int .i64 a6, .int .i64 a7, .int .i64 a8, .int .i64 x, .int .i64 y, .int .i64 z] 26)) [(w.heap.size + 1, [.int .i64 a0, .int .i64 a1, .int .i64 a2, .int .i64 a3, .int .i64 a4, .int .i64 a5, .int .i64 a6, .int .i64 a7, .int .i64 a8, .int .i64 x, .int .i64 y, .int .i64 z]), (w.heap.size, [.int .i64 a0, .int .i64 a1, .int .i64 a2, .int .i64 a3, .int .i64 a4, .int .i64 a5, .int .i64 a6, .int .i64 a7, .int .i64 a8, .int .i64 x, .int .i64 y, .int .i64 z])] := by
    have h := ((Held.nil w).new #[.int .i64 a0, .int .i64 a1, .int .i64 a2, .int .i64 a3, .int .i64 a4, .int .i64 a5, .int .i64 a6, .int .i64 a7, .int .i64 a8, .int .i64 x, .int .i64 y, .int .i64 z] 26).new #[.int .i64 a0, .int .i64 a1, .int .i64 a2, .int .i64 a3, .int .i64 a4, .int .i64 a5, .int .i64 a6, .int .i64 a7, .int .i64 a8, .int .i64 x, .int .i64 y, .int .i64 z] 26
    simpa only [World.size_alloc] using h
  go_enter Tryd.func8, Tryd.ntmps8
  go_wp2_with fail
  refine (eqIntA9_same _ _ _ _ _ _ _ _ _ _).mono ?_
  rintro e w1 ⟨rfl, hb1⟩
  have HT := (HT.later hb1)
  clear hb1
  have c0 := (HT.box 1).c 0
  have c1 := (HT.box 1).c 1
  have c2 := (HT.box 1).c 2
  have c3 := (HT.box 1).c 3
  have c4 := (HT.box 1).c 4
  have c5 := (HT.box 1).c 5
  have c6 := (HT.box 1).c 6
  have c7 := (HT.box 1).c 7
  have c8 := (HT.box 1).c 8
  have c9 := (HT.box 1).c 9
  have c10 := (HT.box 1).c 10
  have c11 := (HT.box 1).c 11
  have d0 := (HT.box 0).c 0
  have d1 := (HT.box 0).c 1
  have d2 := (HT.box 0).c 2
  have d3 := (HT.box 0).c 3
  have d4 := (HT.box 0).c 4
  have d5 := (HT.box 0).c 5
  have d6 := (HT.box 0).c 6
  have d7 := (HT.box 0).c 7
  have d8 := (HT.box 0).c 8
  have d9 := (HT.box 0).c 9
  have d10 := (HT.box 0).c 10
  have d11 := (HT.box 0).c 11
  go_wp2_with fail
  refine (eqVec_same _ _ _ _).mono ?_
  rintro e w2 ⟨rfl, hb2⟩
  have HT := (HT.later hb2)
  clear hb2
  clear c0 c1 c2 c3 c4 c5 c6 c7 c8 c9 c10 c11 d0 d1 d2 d3 d4 d5 d6 d7 d8 d9 d10 d11
  go_wp2_with fail
  go_ret
  exact ⟨rfl, HT.below⟩
end Go.Proofs.YtjflkapdnnecjaaDoor
