/- Contracts of the laws own helpers on patches. -/
import Derived.Test.YtlbamopmindbmaaProg
import Derived.Test.YtlbamopmindbmaaInts
import Derived.Test.YtlbamopmindbmaaVbox
import Derived.Test.YtlbamopmindbmaaVec
import Derived.Test.YtlbamopmindbmaaHeld
import Derived.Test.YtlbamopmindbmaaArr
import Derived.Test.YtlbamopmindbmaaTr
import Derived.Test.YtlbamopmindbmaaMem
import Derived.Test.YtlbamopmindbmaaFlat
import Derived.Test.YtlbamopmindbmaaRowC
import Derived.Test.YtlbamopmindbmaaPat
import Derived.WalkKit
import Derived.WalkSpells
import Derived.WalkLawsBesides
import Derived.Lib.Hide
import Derived.Deep.RegionHeld3
import Derived.Deep.QuietTactic
import Derived.BigQuiet
import Derived.Handy
import Derived.Deep.DeepCutAuto
namespace Go.Proofs.Ytlbamopmindbmaa
open Go.RowKit



set_option maxHeartbeats 4000000 in
theorem eqVecA4_same (a0 a1 a2 a3 a4 a5 a6 a7 a8 x y z : Int) (w : World) :
    Calls Try.prog 76 #[tr a0 a1 a2 a3 a4 a5 a6 a7 a8 x y z, tr a0 a1 a2 a3 a4 a5 a6 a7 a8 x y z] w (BOut true w) := by
  have HT : Held w ((w.alloc (.cells #[.int .i64 a0, .int .i64 a1, .int .i64 a2, .int .i64 a3, .int .i64 a4, .int .i64 a5, .int .i64 a6, .int .i64 a7, .int .i64 a8, .int .i64 x, .int .i64 y, .int .i64 z] 73)).alloc (.cells #[.int .i64 a0, .int .i64 a1, .int .i64 a2, .int .i64 a3, .int .i64 a4, .int .i64 a5, .int .i64 a6, .int .i64 a7, .int .i64 a8, .int .i64 x, .int .i64 y, .int .i64 z] 73)) [(w.heap.size + 1, [.int .i64 a0, .int .i64 a1, .int .i64 a2, .int .i64 a3, .int .i64 a4, .int .i64 a5, .int .i64 a6, .int .i64 a7, .int .i64 a8, .int .i64 x, .int .i64 y, .int .i64 z]), (w.heap.size, [.int .i64 a0, .int .i64 a1, .int .i64 a2, .int .i64 a3, .int .i64 a4, .int .i64 a5, .int .i64 a6, .int .i64 a7, .int .i64 a8, .int .i64 x, .int .i64 y, .int .i64 z])] := by
    have h := ((Held.nil w).new #[.int .i64 a0, .int .i64 a1, .int .i64 a2, .int .i64 a3, .int .i64 a4, .int .i64 a5, .int .i64 a6, .int .i64 a7, .int .i64 a8, .int .i64 x, .int .i64 y, .int .i64 z] 73).new #[.int .i64 a0, .int .i64 a1, .int .i64 a2, .int .i64 a3, .int .i64 a4, .int .i64 a5, .int .i64 a6, .int .i64 a7, .int .i64 a8, .int .i64 x, .int .i64 y, .int .i64 z] 73
    simpa only [World.size_alloc] using h
  obtain ⟨xs, hxs⟩ : ∃ xs : List V3, xs = [(a0, a1, a2), (a3, a4, a5), (a6, a7, a8), (x, y, z)] := ⟨_, rfl⟩
  have hlen : xs.length = 4 := by rw [hxs]; rfl
  have HT : Held w ((w.alloc (.cells #[.int .i64 a0, .int .i64 a1, .int .i64 a2, .int .i64 a3, .int .i64 a4, .int .i64 a5, .int .i64 a6, .int .i64 a7, .int .i64 a8, .int .i64 x, .int .i64 y, .int .i64 z] 73)).alloc (.cells #[.int .i64 a0, .int .i64 a1, .int .i64 a2, .int .i64 a3, .int .i64 a4, .int .i64 a5, .int .i64 a6, .int .i64 a7, .int .i64 a8, .int .i64 x, .int .i64 y, .int .i64 z] 73)) [(w.heap.size + 1, xs.flatMap vg), (w.heap.size, xs.flatMap vg)] := by rw [hxs]; exact HT
  clear hxs
  go_enter Try.func76, Try.ntmps76
  go_wp2
  go_loopw [5] (fun i wr => ∃ k : Nat, k ≤ 4 ∧ i = .int .i64 k ∧ Held w wr [(w.heap.size + 1, xs.flatMap vg), (w.heap.size, xs.flatMap vg)]) (fun i _ => 4 - (intOf i).toNat)
  case atStart => exact ⟨0, Nat.zero_le _, rfl, HT⟩
  case round =>
    clear HT
    obtain ⟨k, hk, rfl, HT⟩ := hrel
    by_cases hlt : k < 4
    · have hv := List.getElem?_eq_getElem (show k < xs.length by omega)
      generalize xs[k]'(by omega) = v at hv
      have HC : ∀ W, Held w W [(w.heap.size + 1, xs.flatMap vg), (w.heap.size, xs.flatMap vg)] → (W.cell? ⟨w.heap.size + 1, k * 3, none⟩ = some (.int .i64 v.1) ∧ W.cell? ⟨w.heap.size + 1, k * 3 + 1, none⟩ = some (.int .i64 v.2.1) ∧ W.cell? ⟨w.heap.size + 1, k * 3 + 2, none⟩ = some (.int .i64 v.2.2) ∧ W.cell? ⟨w.heap.size, k * 3, none⟩ = some (.int .i64 v.1) ∧ W.cell? ⟨w.heap.size, k * 3 + 1, none⟩ = some (.int .i64 v.2.1) ∧ W.cell? ⟨w.heap.size, k * 3 + 2, none⟩ = some (.int .i64 v.2.2)) := fun W h => ⟨((h.box 0).v3 hv).1, ((h.box 0).v3 hv).2.1, ((h.box 0).v3 hv).2.2, ((h.box 1).v3 hv).1, ((h.box 1).v3 hv).2.1, ((h.box 1).v3 hv).2.2⟩
      have hlt' : (k : Int) < 4 := by omega
      have hge' : (0 : Int) ≤ (k : Int) := by omega

      clear hv
      go_wp2_with fail
      go_region_held3 (fun w' => w'.cell? ⟨w.heap.size + 1, k * 3, none⟩ = some (.int .i64 v.1) ∧ w'.cell? ⟨w.heap.size + 1, k * 3 + 1, none⟩ = some (.int .i64 v.2.1) ∧ w'.cell? ⟨w.heap.size + 1, k * 3 + 2, none⟩ = some (.int .i64 v.2.2) ∧ w'.cell? ⟨w.heap.size, k * 3, none⟩ = some (.int .i64 v.1) ∧ w'.cell? ⟨w.heap.size, k * 3 + 1, none⟩ = some (.int .i64 v.2.1) ∧ w'.cell? ⟨w.heap.size, k * 3 + 2, none⟩ = some (.int .i64 v.2.2))
        (first | (with_reducible exact HC _ HT) | (with_reducible exact HC _ HT.drew))
        (first | (go_at_call 72; refine (eqVec_same _ _ _ _).mono ?_; rintro e w1 ⟨rfl, hb1⟩; (first | (have HT := HT.later hb1) | (have HT := HT.drew.later hb1))))
      clear HC
      go_wp2_with fail
      go_roundw
      case rel => exact ⟨k + 1, by omega, by go_num, HT⟩
      case measure => simp [intOf]; omega
    · go_wp2
      go_ret
      exact ⟨rfl, HT.below⟩


set_option maxHeartbeats 4000000 in
theorem eqPatch_same (a0 a1 a2 a3 a4 a5 a6 a7 a8 x y z : Int) (w : World) :
    Calls Try.prog 64 #[tr a0 a1 a2 a3 a4 a5 a6 a7 a8 x y z, tr a0 a1 a2 a3 a4 a5 a6 a7 a8 x y z] w (BOut true w) := by
  have HT : Held w ((w.alloc (.cells #[.int .i64 a0, .int .i64 a1, .int .i64 a2, .int .i64 a3, .int .i64 a4, .int .i64 a5, .int .i64 a6, .int .i64 a7, .int .i64 a8, .int .i64 x, .int .i64 y, .int .i64 z] 75)).alloc (.cells #[.int .i64 a0, .int .i64 a1, .int .i64 a2, .int .i64 a3, .int .i64 a4, .int .i64 a5, .int .i64 a6, .int .i64 a7, .int .i64 a8, .int .i64 x, .int .i64 y, .int .i64 z] 75)) [(w.heap.size + 1, [.int .i64 a0, .int .i64 a1, .int .i64 a2, .int .i64 a3, .int .i64 a4, .int .i64 a5, .int .i64 a6, .int .i64 a7, .int .i64 a8, .int .i64 x, .int .i64 y, .int .i64 z]), (w.heap.size, [.int .i64 a0, .int .i64 a1, .int .i64 a2, .int .i64 a3, .int .i64 a4, .int .i64 a5, .int .i64 a6, .int .i64 a7, .int .i64 a8, .int .i64 x, .int .i64 y, .int .i64 z])] := by
    have h := ((Held.nil w).new #[.int .i64 a0, .int .i64 a1, .int .i64 a2, .int .i64 a3, .int .i64 a4, .int .i64 a5, .int .i64 a6, .int .i64 a7, .int .i64 a8, .int .i64 x, .int .i64 y, .int .i64 z] 75).new #[.int .i64 a0, .int .i64 a1, .int .i64 a2, .int .i64 a3, .int .i64 a4, .int .i64 a5, .int .i64 a6, .int .i64 a7, .int .i64 a8, .int .i64 x, .int .i64 y, .int .i64 z] 75
    simpa only [World.size_alloc] using h
  go_enter Try.func64, Try.ntmps64
  go_wp2_with fail
  refine (eqVecA4_same _ _ _ _ _ _ _ _ _ _ _ _ _).mono ?_
  rintro e w1 ⟨rfl, hb1⟩
  have HT := (HT.later hb1)
  clear hb1
  go_wp2_with fail
  go_ret
  exact ⟨rfl, HT.below⟩
end Go.Proofs.Ytlbamopmindbmaa
