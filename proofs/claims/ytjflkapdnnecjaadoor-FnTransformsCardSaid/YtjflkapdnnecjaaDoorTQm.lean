/- Contracts of the product of two matrices: the model. -/
import Derived.Test.YtjflkapdnnecjaaDoorProg
import Derived.Test.YtjflkapdnnecjaaDoorInts
import Derived.Test.YtjflkapdnnecjaaDoorVbox
import Derived.Test.YtjflkapdnnecjaaDoorVec
import Derived.Test.YtjflkapdnnecjaaDoorHeld
import Derived.Test.YtjflkapdnnecjaaDoorArr
import Derived.Test.YtjflkapdnnecjaaDoorTr
import Derived.Test.YtjflkapdnnecjaaDoorTMat
import Derived.WalkKit
import Derived.WalkSpells
import Derived.WalkLawsBesides
import Derived.Lib.Hide
import Derived.Deep.RegionHeld3
import Derived.Deep.QuietTactic
import Derived.BigQuiet
import Derived.Handy
import Derived.Deep.DeepCutAuto
namespace Go.Proofs.YtjflkapdnnecjaaDoor
open Go.RowKit

set_option maxHeartbeats 1000000 in
theorem l04Quarter_0 (w : World) : Calls Tryd.prog 95 #[.int .i64 0] w (MatOut 16 0 0 0 0 (-16) 0 16 0 w) := by
  go_enter Tryd.func95, Tryd.ntmps95
  go_wp2_with fail
  exact bodyPost_ret (v := mat 16 0 0 0 0 (-16) 0 16 0) (by simp [results, Tryd.results95, go_sem]) rfl ⟨rfl, by go_grown⟩

set_option maxHeartbeats 1000000 in
theorem l04Quarter_1 (w : World) : Calls Tryd.prog 95 #[.int .i64 1] w (MatOut 0 0 16 0 16 0 (-16) 0 0 w) := by
  go_enter Tryd.func95, Tryd.ntmps95
  go_wp2_with fail
  exact bodyPost_ret (v := mat 0 0 16 0 16 0 (-16) 0 0) (by simp [results, Tryd.results95, go_sem]) rfl ⟨rfl, by go_grown⟩

set_option maxHeartbeats 1000000 in
theorem l04Quarter_2 (w : World) : Calls Tryd.prog 95 #[.int .i64 2] w (MatOut 0 (-16) 0 16 0 0 0 0 16 w) := by
  go_enter Tryd.func95, Tryd.ntmps95
  go_wp2_with fail
  exact bodyPost_ret (v := mat 0 (-16) 0 16 0 0 0 0 16) (by simp [results, Tryd.results95, go_sem]) rfl ⟨rfl, by go_grown⟩

theorem mm_bd {a b : Int} (ha : -64 ≤ a ∧ a ≤ 64) (hb : -64 ≤ b ∧ b ≤ 64) : -4096 ≤ a * b ∧ a * b ≤ 4096 := by
  have := mul_bd (a := a) (b := b) (m := 64) (n := 64) ha hb
  omega
theorem mm_w1 {a b : Int} (ha : -64 ≤ a ∧ a ≤ 64) (hb : -64 ≤ b ∧ b ≤ 64) : IntKind.i64.wrap (a * b) = a * b := wrap_in (by have := mm_bd ha hb; omega)
section
variable {a b c d e f : Int} (ha : -64 ≤ a ∧ a ≤ 64) (hb : -64 ≤ b ∧ b ≤ 64) (hc : -64 ≤ c ∧ c ≤ 64) (hd : -64 ≤ d ∧ d ≤ 64) (he : -64 ≤ e ∧ e ≤ 64) (hf : -64 ≤ f ∧ f ≤ 64)
include ha hb hc hd
theorem mm_w2 : IntKind.i64.wrap (a * b + c * d) = a * b + c * d := wrap_in (by have := mm_bd ha hb; have := mm_bd hc hd; omega)
include he hf
theorem mm_w3 : IntKind.i64.wrap (a * b + c * d + e * f) = a * b + c * d + e * f := wrap_in (by have := mm_bd ha hb; have := mm_bd hc hd; have := mm_bd he hf; omega)
theorem mm_q : IntKind.i64.wrap ((a * b + c * d + e * f).tdiv 16) = (a * b + c * d + e * f).tdiv 16 := wrap_in (by
  have := mm_bd ha hb; have := mm_bd hc hd; have := mm_bd he hf
  have hn : -13000 ≤ a * b + c * d + e * f ∧ a * b + c * d + e * f ≤ 13000 := by omega
  generalize a * b + c * d + e * f = n at hn ⊢
  have h1 := Int.mul_tdiv_add_tmod n 16
  have h2 := Int.tmod_lt_of_pos n (show (0:Int) < 16 by omega)
  have h3 : -16 < n.tmod 16 := by
    have := Int.tmod_lt_of_pos (-n) (show (0:Int) < 16 by omega)
    rw [Int.neg_tmod] at this; omega
  omega)
end

set_option maxHeartbeats 16000000 in
theorem l04Mul_any (a0 a1 a2 a3 a4 a5 a6 a7 a8 b0 b1 b2 b3 b4 b5 b6 b7 b8 : Int) (w : World) (ma0 : -64 ≤ a0 ∧ a0 ≤ 64) (ma1 : -64 ≤ a1 ∧ a1 ≤ 64) (ma2 : -64 ≤ a2 ∧ a2 ≤ 64) (ma3 : -64 ≤ a3 ∧ a3 ≤ 64) (ma4 : -64 ≤ a4 ∧ a4 ≤ 64) (ma5 : -64 ≤ a5 ∧ a5 ≤ 64) (ma6 : -64 ≤ a6 ∧ a6 ≤ 64) (ma7 : -64 ≤ a7 ∧ a7 ≤ 64) (ma8 : -64 ≤ a8 ∧ a8 ≤ 64) (mb0 : -64 ≤ b0 ∧ b0 ≤ 64) (mb1 : -64 ≤ b1 ∧ b1 ≤ 64) (mb2 : -64 ≤ b2 ∧ b2 ≤ 64) (mb3 : -64 ≤ b3 ∧ b3 ≤ 64) (mb4 : -64 ≤ b4 ∧ b4 ≤ 64) (mb5 : -64 ≤ b5 ∧ b5 ≤ 64) (mb6 : -64 ≤ b6 ∧ b6 ≤ 64) (mb7 : -64 ≤ b7 ∧ b7 ≤ 64) (mb8 : -64 ≤ b8 ∧ b8 ≤ 64) :
    Calls Tryd.prog 94 #[mat a0 a1 a2 a3 a4 a5 a6 a7 a8, mat b0 b1 b2 b3 b4 b5 b6 b7 b8] w (MatOut ((a0 * b0 + a1 * b3 + a2 * b6).tdiv 16) ((a0 * b1 + a1 * b4 + a2 * b7).tdiv 16) ((a0 * b2 + a1 * b5 + a2 * b8).tdiv 16) ((a3 * b0 + a4 * b3 + a5 * b6).tdiv 16) ((a3 * b1 + a4 * b4 + a5 * b7).tdiv 16) ((a3 * b2 + a4 * b5 + a5 * b8).tdiv 16) ((a6 * b0 + a7 * b3 + a8 * b6).tdiv 16) ((a6 * b1 + a7 * b4 + a8 * b7).tdiv 16) ((a6 * b2 + a7 * b5 + a8 * b8).tdiv 16) w) := by
  have HT : Held w (((w.alloc (.cells #[.int .i64 a0, .int .i64 a1, .int .i64 a2, .int .i64 a3, .int .i64 a4, .int .i64 a5, .int .i64 a6, .int .i64 a7, .int .i64 a8] 22)).alloc (.cells #[.int .i64 b0, .int .i64 b1, .int .i64 b2, .int .i64 b3, .int .i64 b4, .int .i64 b5, .int .i64 b6, .int .i64 b7, .int .i64 b8] 22)).alloc (.cells #[.int .i64 0, .int .i64 0, .int .i64 0, .int .i64 0, .int .i64 0, .int .i64 0, .int .i64 0, .int .i64 0, .int .i64 0] 22)) [(w.heap.size + 2, [.int .i64 0, .int .i64 0, .int .i64 0, .int .i64 0, .int .i64 0, .int .i64 0, .int .i64 0, .int .i64 0, .int .i64 0]), (w.heap.size + 1, [.int .i64 b0, .int .i64 b1, .int .i64 b2, .int .i64 b3, .int .i64 b4, .int .i64 b5, .int .i64 b6, .int .i64 b7, .int .i64 b8]), (w.heap.size, [.int .i64 a0, .int .i64 a1, .int .i64 a2, .int .i64 a3, .int .i64 a4, .int .i64 a5, .int .i64 a6, .int .i64 a7, .int .i64 a8])] := by
    have h := (((Held.nil w).new #[.int .i64 a0, .int .i64 a1, .int .i64 a2, .int .i64 a3, .int .i64 a4, .int .i64 a5, .int .i64 a6, .int .i64 a7, .int .i64 a8] 22).new #[.int .i64 b0, .int .i64 b1, .int .i64 b2, .int .i64 b3, .int .i64 b4, .int .i64 b5, .int .i64 b6, .int .i64 b7, .int .i64 b8] 22).new #[.int .i64 0, .int .i64 0, .int .i64 0, .int .i64 0, .int .i64 0, .int .i64 0, .int .i64 0, .int .i64 0, .int .i64 0] 22
    simpa only [World.size_alloc] using h
  go_enter Tryd.func94, Tryd.ntmps94
  go_upto_region 2 with fail
  have HT := HT.new #[.int .i64 0, .int .i64 0, .int .i64 0, .int .i64 0, .int .i64 0, .int .i64 0, .int .i64 0, .int .i64 0, .int .i64 0] 22
  have hk1 : w.heap.size + 2 < w.heap.size + 3 := by omega
  obtain ⟨W1, hW1⟩ : ∃ W, W = (((w.alloc (.cells #[.int .i64 a0, .int .i64 a1, .int .i64 a2, .int .i64 a3, .int .i64 a4, .int .i64 a5, .int .i64 a6, .int .i64 a7, .int .i64 a8] 22)).alloc (.cells #[.int .i64 b0, .int .i64 b1, .int .i64 b2, .int .i64 b3, .int .i64 b4, .int .i64 b5, .int .i64 b6, .int .i64 b7, .int .i64 b8] 22)).alloc (.cells #[.int .i64 0, .int .i64 0, .int .i64 0, .int .i64 0, .int .i64 0, .int .i64 0, .int .i64 0, .int .i64 0, .int .i64 0] 22)).alloc (.cells #[.int .i64 0, .int .i64 0, .int .i64 0, .int .i64 0, .int .i64 0, .int .i64 0, .int .i64 0, .int .i64 0, .int .i64 0] 22) := ⟨_, rfl⟩
  rw [← hW1] at HT ⊢
  clear hW1
  simp only [World.size_alloc] at HT
  have HT0 : Held w W1 ((w.heap.size + 3, ints (part2 [0, 0, 0, 0, 0, 0, 0, 0, 0] [(a0 * b0 + a1 * b3 + a2 * b6).tdiv 16, (a0 * b1 + a1 * b4 + a2 * b7).tdiv 16, (a0 * b2 + a1 * b5 + a2 * b8).tdiv 16, (a3 * b0 + a4 * b3 + a5 * b6).tdiv 16, (a3 * b1 + a4 * b4 + a5 * b7).tdiv 16, (a3 * b2 + a4 * b5 + a5 * b8).tdiv 16, (a6 * b0 + a7 * b3 + a8 * b6).tdiv 16, (a6 * b1 + a7 * b4 + a8 * b7).tdiv 16, (a6 * b2 + a7 * b5 + a8 * b8).tdiv 16] (3 * (0 : Int)).toNat)) :: [(w.heap.size + 2, [.int .i64 0, .int .i64 0, .int .i64 0, .int .i64 0, .int .i64 0, .int .i64 0, .int .i64 0, .int .i64 0, .int .i64 0]), (w.heap.size + 1, [.int .i64 b0, .int .i64 b1, .int .i64 b2, .int .i64 b3, .int .i64 b4, .int .i64 b5, .int .i64 b6, .int .i64 b7, .int .i64 b8]), (w.heap.size, [.int .i64 a0, .int .i64 a1, .int .i64 a2, .int .i64 a3, .int .i64 a4, .int .i64 a5, .int .i64 a6, .int .i64 a7, .int .i64 a8])]) := HT
  clear HT
  generalize w.heap.size + 3 = k1 at HT0 hk1 ⊢
  have HC : ∀ W, Held w W [(w.heap.size + 2, [.int .i64 0, .int .i64 0, .int .i64 0, .int .i64 0, .int .i64 0, .int .i64 0, .int .i64 0, .int .i64 0, .int .i64 0]), (w.heap.size + 1, [.int .i64 b0, .int .i64 b1, .int .i64 b2, .int .i64 b3, .int .i64 b4, .int .i64 b5, .int .i64 b6, .int .i64 b7, .int .i64 b8]), (w.heap.size, [.int .i64 a0, .int .i64 a1, .int .i64 a2, .int .i64 a3, .int .i64 a4, .int .i64 a5, .int .i64 a6, .int .i64 a7, .int .i64 a8])] → (W.cell? ⟨w.heap.size + 1, 0, none⟩ = some (.int .i64 b0) ∧ W.cell? ⟨w.heap.size + 1, 1, none⟩ = some (.int .i64 b1) ∧ W.cell? ⟨w.heap.size + 1, 2, none⟩ = some (.int .i64 b2) ∧ W.cell? ⟨w.heap.size + 1, 3, none⟩ = some (.int .i64 b3) ∧ W.cell? ⟨w.heap.size + 1, 4, none⟩ = some (.int .i64 b4) ∧ W.cell? ⟨w.heap.size + 1, 5, none⟩ = some (.int .i64 b5) ∧ W.cell? ⟨w.heap.size + 1, 6, none⟩ = some (.int .i64 b6) ∧ W.cell? ⟨w.heap.size + 1, 7, none⟩ = some (.int .i64 b7) ∧ W.cell? ⟨w.heap.size + 1, 8, none⟩ = some (.int .i64 b8) ∧ W.cell? ⟨w.heap.size, 0, none⟩ = some (.int .i64 a0) ∧ W.cell? ⟨w.heap.size, 1, none⟩ = some (.int .i64 a1) ∧ W.cell? ⟨w.heap.size, 2, none⟩ = some (.int .i64 a2) ∧ W.cell? ⟨w.heap.size, 3, none⟩ = some (.int .i64 a3) ∧ W.cell? ⟨w.heap.size, 4, none⟩ = some (.int .i64 a4) ∧ W.cell? ⟨w.heap.size, 5, none⟩ = some (.int .i64 a5) ∧ W.cell? ⟨w.heap.size, 6, none⟩ = some (.int .i64 a6) ∧ W.cell? ⟨w.heap.size, 7, none⟩ = some (.int .i64 a7) ∧ W.cell? ⟨w.heap.size, 8, none⟩ = some (.int .i64 a8)) := fun W h => ⟨(h.box 1).c 0, (h.box 1).c 1, (h.box 1).c 2, (h.box 1).c 3, (h.box 1).c 4, (h.box 1).c 5, (h.box 1).c 6, (h.box 1).c 7, (h.box 1).c 8, (h.box 2).c 0, (h.box 2).c 1, (h.box 2).c 2, (h.box 2).c 3, (h.box 2).c 4, (h.box 2).c 5, (h.box 2).c 6, (h.box 2).c 7, (h.box 2).c 8⟩
  go_upto_region 3 with fail
  go_loopw [6] (fun s wr => ∃ i : Int, 0 ≤ i ∧ i ≤ 3 ∧ s = .int .i64 i ∧ Held w wr ((k1, ints (part2 [0, 0, 0, 0, 0, 0, 0, 0, 0] [(a0 * b0 + a1 * b3 + a2 * b6).tdiv 16, (a0 * b1 + a1 * b4 + a2 * b7).tdiv 16, (a0 * b2 + a1 * b5 + a2 * b8).tdiv 16, (a3 * b0 + a4 * b3 + a5 * b6).tdiv 16, (a3 * b1 + a4 * b4 + a5 * b7).tdiv 16, (a3 * b2 + a4 * b5 + a5 * b8).tdiv 16, (a6 * b0 + a7 * b3 + a8 * b6).tdiv 16, (a6 * b1 + a7 * b4 + a8 * b7).tdiv 16, (a6 * b2 + a7 * b5 + a8 * b8).tdiv 16] (3 * i).toNat)) :: [(w.heap.size + 2, [.int .i64 0, .int .i64 0, .int .i64 0, .int .i64 0, .int .i64 0, .int .i64 0, .int .i64 0, .int .i64 0, .int .i64 0]), (w.heap.size + 1, [.int .i64 b0, .int .i64 b1, .int .i64 b2, .int .i64 b3, .int .i64 b4, .int .i64 b5, .int .i64 b6, .int .i64 b7, .int .i64 b8]), (w.heap.size, [.int .i64 a0, .int .i64 a1, .int .i64 a2, .int .i64 a3, .int .i64 a4, .int .i64 a5, .int .i64 a6, .int .i64 a7, .int .i64 a8])])) (fun s _ => 3 - (intOf s).toNat)
  case atStart => exact ⟨0, by omega, by omega, rfl, HT0⟩
  case round =>
    clear HT0
    obtain ⟨i, hi0, hi, rfl, HT⟩ := hrel
    have hi4 : i = 0 ∨ i = 1 ∨ i = 2 ∨ i = 3 := by omega
    clear hi hi0
    rcases hi4 with rfl | rfl | rfl | rfl
    · have HT0 : Held w wr ((k1, ints (part2 [0, 0, 0, 0, 0, 0, 0, 0, 0] [(a0 * b0 + a1 * b3 + a2 * b6).tdiv 16, (a0 * b1 + a1 * b4 + a2 * b7).tdiv 16, (a0 * b2 + a1 * b5 + a2 * b8).tdiv 16, (a3 * b0 + a4 * b3 + a5 * b6).tdiv 16, (a3 * b1 + a4 * b4 + a5 * b7).tdiv 16, (a3 * b2 + a4 * b5 + a5 * b8).tdiv 16, (a6 * b0 + a7 * b3 + a8 * b6).tdiv 16, (a6 * b1 + a7 * b4 + a8 * b7).tdiv 16, (a6 * b2 + a7 * b5 + a8 * b8).tdiv 16] (0 + (0 : Int).toNat))) :: [(w.heap.size + 2, [.int .i64 0, .int .i64 0, .int .i64 0, .int .i64 0, .int .i64 0, .int .i64 0, .int .i64 0, .int .i64 0, .int .i64 0]), (w.heap.size + 1, [.int .i64 b0, .int .i64 b1, .int .i64 b2, .int .i64 b3, .int .i64 b4, .int .i64 b5, .int .i64 b6, .int .i64 b7, .int .i64 b8]), (w.heap.size, [.int .i64 a0, .int .i64 a1, .int .i64 a2, .int .i64 a3, .int .i64 a4, .int .i64 a5, .int .i64 a6, .int .i64 a7, .int .i64 a8])]) := HT
      clear HT
      go_upto_region 6 with fail
      go_loopw [7] (fun s wr => ∃ k : Int, 0 ≤ k ∧ k ≤ 3 ∧ s = .int .i64 k ∧ Held w wr ((k1, ints (part2 [0, 0, 0, 0, 0, 0, 0, 0, 0] [(a0 * b0 + a1 * b3 + a2 * b6).tdiv 16, (a0 * b1 + a1 * b4 + a2 * b7).tdiv 16, (a0 * b2 + a1 * b5 + a2 * b8).tdiv 16, (a3 * b0 + a4 * b3 + a5 * b6).tdiv 16, (a3 * b1 + a4 * b4 + a5 * b7).tdiv 16, (a3 * b2 + a4 * b5 + a5 * b8).tdiv 16, (a6 * b0 + a7 * b3 + a8 * b6).tdiv 16, (a6 * b1 + a7 * b4 + a8 * b7).tdiv 16, (a6 * b2 + a7 * b5 + a8 * b8).tdiv 16] (0 + k.toNat))) :: [(w.heap.size + 2, [.int .i64 0, .int .i64 0, .int .i64 0, .int .i64 0, .int .i64 0, .int .i64 0, .int .i64 0, .int .i64 0, .int .i64 0]), (w.heap.size + 1, [.int .i64 b0, .int .i64 b1, .int .i64 b2, .int .i64 b3, .int .i64 b4, .int .i64 b5, .int .i64 b6, .int .i64 b7, .int .i64 b8]), (w.heap.size, [.int .i64 a0, .int .i64 a1, .int .i64 a2, .int .i64 a3, .int .i64 a4, .int .i64 a5, .int .i64 a6, .int .i64 a7, .int .i64 a8])])) (fun s _ => 3 - (intOf s).toNat)
      case atStart => exact ⟨0, by omega, by omega, rfl, HT0⟩
      case round =>
        clear HT0
        obtain ⟨k, hk0, hk, rfl, HT⟩ := hrel
        have hk4 : k = 0 ∨ k = 1 ∨ k = 2 ∨ k = 3 := by omega
        clear hk hk0
        rcases hk4 with rfl | rfl | rfl | rfl
        · have HT : Held w wr ((k1, [.int .i64 0, .int .i64 0, .int .i64 0, .int .i64 0, .int .i64 0, .int .i64 0, .int .i64 0, .int .i64 0, .int .i64 0]) :: [(w.heap.size + 2, [.int .i64 0, .int .i64 0, .int .i64 0, .int .i64 0, .int .i64 0, .int .i64 0, .int .i64 0, .int .i64 0, .int .i64 0]), (w.heap.size + 1, [.int .i64 b0, .int .i64 b1, .int .i64 b2, .int .i64 b3, .int .i64 b4, .int .i64 b5, .int .i64 b6, .int .i64 b7, .int .i64 b8]), (w.heap.size, [.int .i64 a0, .int .i64 a1, .int .i64 a2, .int .i64 a3, .int .i64 a4, .int .i64 a5, .int .i64 a6, .int .i64 a7, .int .i64 a8])]) := HT
          have p0 := (HT.box 0).c 0
          have f0 := (HT.box 0).f 0
          have q0 := mm_w1 ma0 mb0
          have q1 := mm_w1 ma1 mb3
          have q2 := mm_w1 ma2 mb6
          have q3 := mm_w2 ma0 mb0 ma1 mb3
          have q4 := mm_w3 ma0 mb0 ma1 mb3 ma2 mb6
          have q5 := mm_q ma0 mb0 ma1 mb3 ma2 mb6
          have z0 : IntKind.i64.wrap 0 = 0 := by rfl
          have z1 : IntKind.i64.wrap 1 = 1 := by rfl
          have z2 : IntKind.i64.wrap 2 = 2 := by rfl
          have z3 : IntKind.i64.wrap 3 = 3 := by rfl
          have z6 : IntKind.i64.wrap 6 = 6 := by rfl
          clear ma0 mb0 ma1 mb1 ma2 mb2 ma3 mb3 ma4 mb4 ma5 mb5 ma6 mb6 ma7 mb7 ma8 mb8
          go_wp2_with fail
          go_region_held3 (fun w' => w'.cell? ⟨w.heap.size + 1, 0, none⟩ = some (.int .i64 b0) ∧ w'.cell? ⟨w.heap.size + 1, 1, none⟩ = some (.int .i64 b1) ∧ w'.cell? ⟨w.heap.size + 1, 2, none⟩ = some (.int .i64 b2) ∧ w'.cell? ⟨w.heap.size + 1, 3, none⟩ = some (.int .i64 b3) ∧ w'.cell? ⟨w.heap.size + 1, 4, none⟩ = some (.int .i64 b4) ∧ w'.cell? ⟨w.heap.size + 1, 5, none⟩ = some (.int .i64 b5) ∧ w'.cell? ⟨w.heap.size + 1, 6, none⟩ = some (.int .i64 b6) ∧ w'.cell? ⟨w.heap.size + 1, 7, none⟩ = some (.int .i64 b7) ∧ w'.cell? ⟨w.heap.size + 1, 8, none⟩ = some (.int .i64 b8) ∧ w'.cell? ⟨w.heap.size, 0, none⟩ = some (.int .i64 a0) ∧ w'.cell? ⟨w.heap.size, 1, none⟩ = some (.int .i64 a1) ∧ w'.cell? ⟨w.heap.size, 2, none⟩ = some (.int .i64 a2) ∧ w'.cell? ⟨w.heap.size, 3, none⟩ = some (.int .i64 a3) ∧ w'.cell? ⟨w.heap.size, 4, none⟩ = some (.int .i64 a4) ∧ w'.cell? ⟨w.heap.size, 5, none⟩ = some (.int .i64 a5) ∧ w'.cell? ⟨w.heap.size, 6, none⟩ = some (.int .i64 a6) ∧ w'.cell? ⟨w.heap.size, 7, none⟩ = some (.int .i64 a7) ∧ w'.cell? ⟨w.heap.size, 8, none⟩ = some (.int .i64 a8))
            (first | (with_reducible exact HC _ HT.tail) | (with_reducible exact HC _ HT.drew.tail) | (with_reducible exact HC _ (HT.tail.far (by omega) (by simp <;> omega) _)) | (with_reducible exact HC _ (HT.tail.far (by omega) (by simp <;> omega) _).drew))
            (fail)
          clear q0 q1 q2 q3 q4 q5 z0 z1 z2 z3 z6
          go_wp2
          go_roundw
          case rel => exact ⟨1, by omega, by omega, rfl, (HT.put (by omega) (by simp <;> omega) 0 _).drew⟩
          case measure => simp [intOf]
        · have HT : Held w wr ((k1, [.int .i64 ((a0 * b0 + a1 * b3 + a2 * b6).tdiv 16), .int .i64 0, .int .i64 0, .int .i64 0, .int .i64 0, .int .i64 0, .int .i64 0, .int .i64 0, .int .i64 0]) :: [(w.heap.size + 2, [.int .i64 0, .int .i64 0, .int .i64 0, .int .i64 0, .int .i64 0, .int .i64 0, .int .i64 0, .int .i64 0, .int .i64 0]), (w.heap.size + 1, [.int .i64 b0, .int .i64 b1, .int .i64 b2, .int .i64 b3, .int .i64 b4, .int .i64 b5, .int .i64 b6, .int .i64 b7, .int .i64 b8]), (w.heap.size, [.int .i64 a0, .int .i64 a1, .int .i64 a2, .int .i64 a3, .int .i64 a4, .int .i64 a5, .int .i64 a6, .int .i64 a7, .int .i64 a8])]) := HT
          have p0 := (HT.box 0).c 1
          have f0 := (HT.box 0).f 1
          have q0 := mm_w1 ma0 mb1
          have q1 := mm_w1 ma1 mb4
          have q2 := mm_w1 ma2 mb7
          have q3 := mm_w2 ma0 mb1 ma1 mb4
          have q4 := mm_w3 ma0 mb1 ma1 mb4 ma2 mb7
          have q5 := mm_q ma0 mb1 ma1 mb4 ma2 mb7
          have z0 : IntKind.i64.wrap 0 = 0 := by rfl
          have z1 : IntKind.i64.wrap 1 = 1 := by rfl
          have z2 : IntKind.i64.wrap 2 = 2 := by rfl
          have z4 : IntKind.i64.wrap 4 = 4 := by rfl
          have z7 : IntKind.i64.wrap 7 = 7 := by rfl
          clear ma0 mb0 ma1 mb1 ma2 mb2 ma3 mb3 ma4 mb4 ma5 mb5 ma6 mb6 ma7 mb7 ma8 mb8
          go_wp2_with fail
          go_region_held3 (fun w' => w'.cell? ⟨w.heap.size + 1, 0, none⟩ = some (.int .i64 b0) ∧ w'.cell? ⟨w.heap.size + 1, 1, none⟩ = some (.int .i64 b1) ∧ w'.cell? ⟨w.heap.size + 1, 2, none⟩ = some (.int .i64 b2) ∧ w'.cell? ⟨w.heap.size + 1, 3, none⟩ = some (.int .i64 b3) ∧ w'.cell? ⟨w.heap.size + 1, 4, none⟩ = some (.int .i64 b4) ∧ w'.cell? ⟨w.heap.size + 1, 5, none⟩ = some (.int .i64 b5) ∧ w'.cell? ⟨w.heap.size + 1, 6, none⟩ = some (.int .i64 b6) ∧ w'.cell? ⟨w.heap.size + 1, 7, none⟩ = some (.int .i64 b7) ∧ w'.cell? ⟨w.heap.size + 1, 8, none⟩ = some (.int .i64 b8) ∧ w'.cell? ⟨w.heap.size, 0, none⟩ = some (.int .i64 a0) ∧ w'.cell? ⟨w.heap.size, 1, none⟩ = some (.int .i64 a1) ∧ w'.cell? ⟨w.heap.size, 2, none⟩ = some (.int .i64 a2) ∧ w'.cell? ⟨w.heap.size, 3, none⟩ = some (.int .i64 a3) ∧ w'.cell? ⟨w.heap.size, 4, none⟩ = some (.int .i64 a4) ∧ w'.cell? ⟨w.heap.size, 5, none⟩ = some (.int .i64 a5) ∧ w'.cell? ⟨w.heap.size, 6, none⟩ = some (.int .i64 a6) ∧ w'.cell? ⟨w.heap.size, 7, none⟩ = some (.int .i64 a7) ∧ w'.cell? ⟨w.heap.size, 8, none⟩ = some (.int .i64 a8))
            (first | (with_reducible exact HC _ HT.tail) | (with_reducible exact HC _ HT.drew.tail) | (with_reducible exact HC _ (HT.tail.far (by omega) (by simp <;> omega) _)) | (with_reducible exact HC _ (HT.tail.far (by omega) (by simp <;> omega) _).drew))
            (fail)
          clear q0 q1 q2 q3 q4 q5 z0 z1 z2 z4 z7
          go_wp2
          go_roundw
          case rel => exact ⟨2, by omega, by omega, rfl, (HT.put (by omega) (by simp <;> omega) 1 _).drew⟩
          case measure => simp [intOf]
        · have HT : Held w wr ((k1, [.int .i64 ((a0 * b0 + a1 * b3 + a2 * b6).tdiv 16), .int .i64 ((a0 * b1 + a1 * b4 + a2 * b7).tdiv 16), .int .i64 0, .int .i64 0, .int .i64 0, .int .i64 0, .int .i64 0, .int .i64 0, .int .i64 0]) :: [(w.heap.size + 2, [.int .i64 0, .int .i64 0, .int .i64 0, .int .i64 0, .int .i64 0, .int .i64 0, .int .i64 0, .int .i64 0, .int .i64 0]), (w.heap.size + 1, [.int .i64 b0, .int .i64 b1, .int .i64 b2, .int .i64 b3, .int .i64 b4, .int .i64 b5, .int .i64 b6, .int .i64 b7, .int .i64 b8]), (w.heap.size, [.int .i64 a0, .int .i64 a1, .int .i64 a2, .int .i64 a3, .int .i64 a4, .int .i64 a5, .int .i64 a6, .int .i64 a7, .int .i64 a8])]) := HT
          have p0 := (HT.box 0).c 2
          have f0 := (HT.box 0).f 2
          have q0 := mm_w1 ma0 mb2
          have q1 := mm_w1 ma1 mb5
          have q2 := mm_w1 ma2 mb8
          have q3 := mm_w2 ma0 mb2 ma1 mb5
          have q4 := mm_w3 ma0 mb2 ma1 mb5 ma2 mb8
          have q5 := mm_q ma0 mb2 ma1 mb5 ma2 mb8
          have z0 : IntKind.i64.wrap 0 = 0 := by rfl
          have z1 : IntKind.i64.wrap 1 = 1 := by rfl
          have z2 : IntKind.i64.wrap 2 = 2 := by rfl
          have z5 : IntKind.i64.wrap 5 = 5 := by rfl
          have z8 : IntKind.i64.wrap 8 = 8 := by rfl
          clear ma0 mb0 ma1 mb1 ma2 mb2 ma3 mb3 ma4 mb4 ma5 mb5 ma6 mb6 ma7 mb7 ma8 mb8
          go_wp2_with fail
          go_region_held3 (fun w' => w'.cell? ⟨w.heap.size + 1, 0, none⟩ = some (.int .i64 b0) ∧ w'.cell? ⟨w.heap.size + 1, 1, none⟩ = some (.int .i64 b1) ∧ w'.cell? ⟨w.heap.size + 1, 2, none⟩ = some (.int .i64 b2) ∧ w'.cell? ⟨w.heap.size + 1, 3, none⟩ = some (.int .i64 b3) ∧ w'.cell? ⟨w.heap.size + 1, 4, none⟩ = some (.int .i64 b4) ∧ w'.cell? ⟨w.heap.size + 1, 5, none⟩ = some (.int .i64 b5) ∧ w'.cell? ⟨w.heap.size + 1, 6, none⟩ = some (.int .i64 b6) ∧ w'.cell? ⟨w.heap.size + 1, 7, none⟩ = some (.int .i64 b7) ∧ w'.cell? ⟨w.heap.size + 1, 8, none⟩ = some (.int .i64 b8) ∧ w'.cell? ⟨w.heap.size, 0, none⟩ = some (.int .i64 a0) ∧ w'.cell? ⟨w.heap.size, 1, none⟩ = some (.int .i64 a1) ∧ w'.cell? ⟨w.heap.size, 2, none⟩ = some (.int .i64 a2) ∧ w'.cell? ⟨w.heap.size, 3, none⟩ = some (.int .i64 a3) ∧ w'.cell? ⟨w.heap.size, 4, none⟩ = some (.int .i64 a4) ∧ w'.cell? ⟨w.heap.size, 5, none⟩ = some (.int .i64 a5) ∧ w'.cell? ⟨w.heap.size, 6, none⟩ = some (.int .i64 a6) ∧ w'.cell? ⟨w.heap.size, 7, none⟩ = some (.int .i64 a7) ∧ w'.cell? ⟨w.heap.size, 8, none⟩ = some (.int .i64 a8))
            (first | (with_reducible exact HC _ HT.tail) | (with_reducible exact HC _ HT.drew.tail) | (with_reducible exact HC _ (HT.tail.far (by omega) (by simp <;> omega) _)) | (with_reducible exact HC _ (HT.tail.far (by omega) (by simp <;> omega) _).drew))
            (fail)
          clear q0 q1 q2 q3 q4 q5 z0 z1 z2 z5 z8
          go_wp2
          go_roundw
          case rel => exact ⟨3, by omega, by omega, rfl, (HT.put (by omega) (by simp <;> omega) 2 _).drew⟩
          case measure => simp [intOf]
        · have zi : IntKind.i64.wrap 1 = 1 := by rfl
          go_wp2_with fail
          go_roundw
          case rel => exact ⟨1, by omega, by omega, rfl, HT⟩
          case measure => simp [intOf]
    · have HT0 : Held w wr ((k1, ints (part2 [0, 0, 0, 0, 0, 0, 0, 0, 0] [(a0 * b0 + a1 * b3 + a2 * b6).tdiv 16, (a0 * b1 + a1 * b4 + a2 * b7).tdiv 16, (a0 * b2 + a1 * b5 + a2 * b8).tdiv 16, (a3 * b0 + a4 * b3 + a5 * b6).tdiv 16, (a3 * b1 + a4 * b4 + a5 * b7).tdiv 16, (a3 * b2 + a4 * b5 + a5 * b8).tdiv 16, (a6 * b0 + a7 * b3 + a8 * b6).tdiv 16, (a6 * b1 + a7 * b4 + a8 * b7).tdiv 16, (a6 * b2 + a7 * b5 + a8 * b8).tdiv 16] (3 + (0 : Int).toNat))) :: [(w.heap.size + 2, [.int .i64 0, .int .i64 0, .int .i64 0, .int .i64 0, .int .i64 0, .int .i64 0, .int .i64 0, .int .i64 0, .int .i64 0]), (w.heap.size + 1, [.int .i64 b0, .int .i64 b1, .int .i64 b2, .int .i64 b3, .int .i64 b4, .int .i64 b5, .int .i64 b6, .int .i64 b7, .int .i64 b8]), (w.heap.size, [.int .i64 a0, .int .i64 a1, .int .i64 a2, .int .i64 a3, .int .i64 a4, .int .i64 a5, .int .i64 a6, .int .i64 a7, .int .i64 a8])]) := HT
      clear HT
      go_upto_region 6 with fail
      go_loopw [7] (fun s wr => ∃ k : Int, 0 ≤ k ∧ k ≤ 3 ∧ s = .int .i64 k ∧ Held w wr ((k1, ints (part2 [0, 0, 0, 0, 0, 0, 0, 0, 0] [(a0 * b0 + a1 * b3 + a2 * b6).tdiv 16, (a0 * b1 + a1 * b4 + a2 * b7).tdiv 16, (a0 * b2 + a1 * b5 + a2 * b8).tdiv 16, (a3 * b0 + a4 * b3 + a5 * b6).tdiv 16, (a3 * b1 + a4 * b4 + a5 * b7).tdiv 16, (a3 * b2 + a4 * b5 + a5 * b8).tdiv 16, (a6 * b0 + a7 * b3 + a8 * b6).tdiv 16, (a6 * b1 + a7 * b4 + a8 * b7).tdiv 16, (a6 * b2 + a7 * b5 + a8 * b8).tdiv 16] (3 + k.toNat))) :: [(w.heap.size + 2, [.int .i64 0, .int .i64 0, .int .i64 0, .int .i64 0, .int .i64 0, .int .i64 0, .int .i64 0, .int .i64 0, .int .i64 0]), (w.heap.size + 1, [.int .i64 b0, .int .i64 b1, .int .i64 b2, .int .i64 b3, .int .i64 b4, .int .i64 b5, .int .i64 b6, .int .i64 b7, .int .i64 b8]), (w.heap.size, [.int .i64 a0, .int .i64 a1, .int .i64 a2, .int .i64 a3, .int .i64 a4, .int .i64 a5, .int .i64 a6, .int .i64 a7, .int .i64 a8])])) (fun s _ => 3 - (intOf s).toNat)
      case atStart => exact ⟨0, by omega, by omega, rfl, HT0⟩
      case round =>
        clear HT0
        obtain ⟨k, hk0, hk, rfl, HT⟩ := hrel
        have hk4 : k = 0 ∨ k = 1 ∨ k = 2 ∨ k = 3 := by omega
        clear hk hk0
        rcases hk4 with rfl | rfl | rfl | rfl
        · have HT : Held w wr ((k1, [.int .i64 ((a0 * b0 + a1 * b3 + a2 * b6).tdiv 16), .int .i64 ((a0 * b1 + a1 * b4 + a2 * b7).tdiv 16), .int .i64 ((a0 * b2 + a1 * b5 + a2 * b8).tdiv 16), .int .i64 0, .int .i64 0, .int .i64 0, .int .i64 0, .int .i64 0, .int .i64 0]) :: [(w.heap.size + 2, [.int .i64 0, .int .i64 0, .int .i64 0, .int .i64 0, .int .i64 0, .int .i64 0, .int .i64 0, .int .i64 0, .int .i64 0]), (w.heap.size + 1, [.int .i64 b0, .int .i64 b1, .int .i64 b2, .int .i64 b3, .int .i64 b4, .int .i64 b5, .int .i64 b6, .int .i64 b7, .int .i64 b8]), (w.heap.size, [.int .i64 a0, .int .i64 a1, .int .i64 a2, .int .i64 a3, .int .i64 a4, .int .i64 a5, .int .i64 a6, .int .i64 a7, .int .i64 a8])]) := HT
          have p0 := (HT.box 0).c 3
          have f0 := (HT.box 0).f 3
          have q0 := mm_w1 ma3 mb0
          have q1 := mm_w1 ma4 mb3
          have q2 := mm_w1 ma5 mb6
          have q3 := mm_w2 ma3 mb0 ma4 mb3
          have q4 := mm_w3 ma3 mb0 ma4 mb3 ma5 mb6
          have q5 := mm_q ma3 mb0 ma4 mb3 ma5 mb6
          have z0 : IntKind.i64.wrap 0 = 0 := by rfl
          have z3 : IntKind.i64.wrap 3 = 3 := by rfl
          have z4 : IntKind.i64.wrap 4 = 4 := by rfl
          have z5 : IntKind.i64.wrap 5 = 5 := by rfl
          have z6 : IntKind.i64.wrap 6 = 6 := by rfl
          clear ma0 mb0 ma1 mb1 ma2 mb2 ma3 mb3 ma4 mb4 ma5 mb5 ma6 mb6 ma7 mb7 ma8 mb8
          go_wp2_with fail
          go_region_held3 (fun w' => w'.cell? ⟨w.heap.size + 1, 0, none⟩ = some (.int .i64 b0) ∧ w'.cell? ⟨w.heap.size + 1, 1, none⟩ = some (.int .i64 b1) ∧ w'.cell? ⟨w.heap.size + 1, 2, none⟩ = some (.int .i64 b2) ∧ w'.cell? ⟨w.heap.size + 1, 3, none⟩ = some (.int .i64 b3) ∧ w'.cell? ⟨w.heap.size + 1, 4, none⟩ = some (.int .i64 b4) ∧ w'.cell? ⟨w.heap.size + 1, 5, none⟩ = some (.int .i64 b5) ∧ w'.cell? ⟨w.heap.size + 1, 6, none⟩ = some (.int .i64 b6) ∧ w'.cell? ⟨w.heap.size + 1, 7, none⟩ = some (.int .i64 b7) ∧ w'.cell? ⟨w.heap.size + 1, 8, none⟩ = some (.int .i64 b8) ∧ w'.cell? ⟨w.heap.size, 0, none⟩ = some (.int .i64 a0) ∧ w'.cell? ⟨w.heap.size, 1, none⟩ = some (.int .i64 a1) ∧ w'.cell? ⟨w.heap.size, 2, none⟩ = some (.int .i64 a2) ∧ w'.cell? ⟨w.heap.size, 3, none⟩ = some (.int .i64 a3) ∧ w'.cell? ⟨w.heap.size, 4, none⟩ = some (.int .i64 a4) ∧ w'.cell? ⟨w.heap.size, 5, none⟩ = some (.int .i64 a5) ∧ w'.cell? ⟨w.heap.size, 6, none⟩ = some (.int .i64 a6) ∧ w'.cell? ⟨w.heap.size, 7, none⟩ = some (.int .i64 a7) ∧ w'.cell? ⟨w.heap.size, 8, none⟩ = some (.int .i64 a8))
            (first | (with_reducible exact HC _ HT.tail) | (with_reducible exact HC _ HT.drew.tail) | (with_reducible exact HC _ (HT.tail.far (by omega) (by simp <;> omega) _)) | (with_reducible exact HC _ (HT.tail.far (by omega) (by simp <;> omega) _).drew))
            (fail)
          clear q0 q1 q2 q3 q4 q5 z0 z3 z4 z5 z6
          go_wp2
          go_roundw
          case rel => exact ⟨1, by omega, by omega, rfl, (HT.put (by omega) (by simp <;> omega) 3 _).drew⟩
          case measure => simp [intOf]
        · have HT : Held w wr ((k1, [.int .i64 ((a0 * b0 + a1 * b3 + a2 * b6).tdiv 16), .int .i64 ((a0 * b1 + a1 * b4 + a2 * b7).tdiv 16), .int .i64 ((a0 * b2 + a1 * b5 + a2 * b8).tdiv 16), .int .i64 ((a3 * b0 + a4 * b3 + a5 * b6).tdiv 16), .int .i64 0, .int .i64 0, .int .i64 0, .int .i64 0, .int .i64 0]) :: [(w.heap.size + 2, [.int .i64 0, .int .i64 0, .int .i64 0, .int .i64 0, .int .i64 0, .int .i64 0, .int .i64 0, .int .i64 0, .int .i64 0]), (w.heap.size + 1, [.int .i64 b0, .int .i64 b1, .int .i64 b2, .int .i64 b3, .int .i64 b4, .int .i64 b5, .int .i64 b6, .int .i64 b7, .int .i64 b8]), (w.heap.size, [.int .i64 a0, .int .i64 a1, .int .i64 a2, .int .i64 a3, .int .i64 a4, .int .i64 a5, .int .i64 a6, .int .i64 a7, .int .i64 a8])]) := HT
          have p0 := (HT.box 0).c 4
          have f0 := (HT.box 0).f 4
          have q0 := mm_w1 ma3 mb1
          have q1 := mm_w1 ma4 mb4
          have q2 := mm_w1 ma5 mb7
          have q3 := mm_w2 ma3 mb1 ma4 mb4
          have q4 := mm_w3 ma3 mb1 ma4 mb4 ma5 mb7
          have q5 := mm_q ma3 mb1 ma4 mb4 ma5 mb7
          have z1 : IntKind.i64.wrap 1 = 1 := by rfl
          have z3 : IntKind.i64.wrap 3 = 3 := by rfl
          have z4 : IntKind.i64.wrap 4 = 4 := by rfl
          have z5 : IntKind.i64.wrap 5 = 5 := by rfl
          have z7 : IntKind.i64.wrap 7 = 7 := by rfl
          clear ma0 mb0 ma1 mb1 ma2 mb2 ma3 mb3 ma4 mb4 ma5 mb5 ma6 mb6 ma7 mb7 ma8 mb8
          go_wp2_with fail
          go_region_held3 (fun w' => w'.cell? ⟨w.heap.size + 1, 0, none⟩ = some (.int .i64 b0) ∧ w'.cell? ⟨w.heap.size + 1, 1, none⟩ = some (.int .i64 b1) ∧ w'.cell? ⟨w.heap.size + 1, 2, none⟩ = some (.int .i64 b2) ∧ w'.cell? ⟨w.heap.size + 1, 3, none⟩ = some (.int .i64 b3) ∧ w'.cell? ⟨w.heap.size + 1, 4, none⟩ = some (.int .i64 b4) ∧ w'.cell? ⟨w.heap.size + 1, 5, none⟩ = some (.int .i64 b5) ∧ w'.cell? ⟨w.heap.size + 1, 6, none⟩ = some (.int .i64 b6) ∧ w'.cell? ⟨w.heap.size + 1, 7, none⟩ = some (.int .i64 b7) ∧ w'.cell? ⟨w.heap.size + 1, 8, none⟩ = some (.int .i64 b8) ∧ w'.cell? ⟨w.heap.size, 0, none⟩ = some (.int .i64 a0) ∧ w'.cell? ⟨w.heap.size, 1, none⟩ = some (.int .i64 a1) ∧ w'.cell? ⟨w.heap.size, 2, none⟩ = some (.int .i64 a2) ∧ w'.cell? ⟨w.heap.size, 3, none⟩ = some (.int .i64 a3) ∧ w'.cell? ⟨w.heap.size, 4, none⟩ = some (.int .i64 a4) ∧ w'.cell? ⟨w.heap.size, 5, none⟩ = some (.int .i64 a5) ∧ w'.cell? ⟨w.heap.size, 6, none⟩ = some (.int .i64 a6) ∧ w'.cell? ⟨w.heap.size, 7, none⟩ = some (.int .i64 a7) ∧ w'.cell? ⟨w.heap.size, 8, none⟩ = some (.int .i64 a8))
            (first | (with_reducible exact HC _ HT.tail) | (with_reducible exact HC _ HT.drew.tail) | (with_reducible exact HC _ (HT.tail.far (by omega) (by simp <;> omega) _)) | (with_reducible exact HC _ (HT.tail.far (by omega) (by simp <;> omega) _).drew))
            (fail)
          clear q0 q1 q2 q3 q4 q5 z1 z3 z4 z5 z7
          go_wp2
          go_roundw
          case rel => exact ⟨2, by omega, by omega, rfl, (HT.put (by omega) (by simp <;> omega) 4 _).drew⟩
          case measure => simp [intOf]
        · have HT : Held w wr ((k1, [.int .i64 ((a0 * b0 + a1 * b3 + a2 * b6).tdiv 16), .int .i64 ((a0 * b1 + a1 * b4 + a2 * b7).tdiv 16), .int .i64 ((a0 * b2 + a1 * b5 + a2 * b8).tdiv 16), .int .i64 ((a3 * b0 + a4 * b3 + a5 * b6).tdiv 16), .int .i64 ((a3 * b1 + a4 * b4 + a5 * b7).tdiv 16), .int .i64 0, .int .i64 0, .int .i64 0, .int .i64 0]) :: [(w.heap.size + 2, [.int .i64 0, .int .i64 0, .int .i64 0, .int .i64 0, .int .i64 0, .int .i64 0, .int .i64 0, .int .i64 0, .int .i64 0]), (w.heap.size + 1, [.int .i64 b0, .int .i64 b1, .int .i64 b2, .int .i64 b3, .int .i64 b4, .int .i64 b5, .int .i64 b6, .int .i64 b7, .int .i64 b8]), (w.heap.size, [.int .i64 a0, .int .i64 a1, .int .i64 a2, .int .i64 a3, .int .i64 a4, .int .i64 a5, .int .i64 a6, .int .i64 a7, .int .i64 a8])]) := HT
          have p0 := (HT.box 0).c 5
          have f0 := (HT.box 0).f 5
          have q0 := mm_w1 ma3 mb2
          have q1 := mm_w1 ma4 mb5
          have q2 := mm_w1 ma5 mb8
          have q3 := mm_w2 ma3 mb2 ma4 mb5
          have q4 := mm_w3 ma3 mb2 ma4 mb5 ma5 mb8
          have q5 := mm_q ma3 mb2 ma4 mb5 ma5 mb8
          have z2 : IntKind.i64.wrap 2 = 2 := by rfl
          have z3 : IntKind.i64.wrap 3 = 3 := by rfl
          have z4 : IntKind.i64.wrap 4 = 4 := by rfl
          have z5 : IntKind.i64.wrap 5 = 5 := by rfl
          have z8 : IntKind.i64.wrap 8 = 8 := by rfl
          clear ma0 mb0 ma1 mb1 ma2 mb2 ma3 mb3 ma4 mb4 ma5 mb5 ma6 mb6 ma7 mb7 ma8 mb8
          go_wp2_with fail
          go_region_held3 (fun w' => w'.cell? ⟨w.heap.size + 1, 0, none⟩ = some (.int .i64 b0) ∧ w'.cell? ⟨w.heap.size + 1, 1, none⟩ = some (.int .i64 b1) ∧ w'.cell? ⟨w.heap.size + 1, 2, none⟩ = some (.int .i64 b2) ∧ w'.cell? ⟨w.heap.size + 1, 3, none⟩ = some (.int .i64 b3) ∧ w'.cell? ⟨w.heap.size + 1, 4, none⟩ = some (.int .i64 b4) ∧ w'.cell? ⟨w.heap.size + 1, 5, none⟩ = some (.int .i64 b5) ∧ w'.cell? ⟨w.heap.size + 1, 6, none⟩ = some (.int .i64 b6) ∧ w'.cell? ⟨w.heap.size + 1, 7, none⟩ = some (.int .i64 b7) ∧ w'.cell? ⟨w.heap.size + 1, 8, none⟩ = some (.int .i64 b8) ∧ w'.cell? ⟨w.heap.size, 0, none⟩ = some (.int .i64 a0) ∧ w'.cell? ⟨w.heap.size, 1, none⟩ = some (.int .i64 a1) ∧ w'.cell? ⟨w.heap.size, 2, none⟩ = some (.int .i64 a2) ∧ w'.cell? ⟨w.heap.size, 3, none⟩ = some (.int .i64 a3) ∧ w'.cell? ⟨w.heap.size, 4, none⟩ = some (.int .i64 a4) ∧ w'.cell? ⟨w.heap.size, 5, none⟩ = some (.int .i64 a5) ∧ w'.cell? ⟨w.heap.size, 6, none⟩ = some (.int .i64 a6) ∧ w'.cell? ⟨w.heap.size, 7, none⟩ = some (.int .i64 a7) ∧ w'.cell? ⟨w.heap.size, 8, none⟩ = some (.int .i64 a8))
            (first | (with_reducible exact HC _ HT.tail) | (with_reducible exact HC _ HT.drew.tail) | (with_reducible exact HC _ (HT.tail.far (by omega) (by simp <;> omega) _)) | (with_reducible exact HC _ (HT.tail.far (by omega) (by simp <;> omega) _).drew))
            (fail)
          clear q0 q1 q2 q3 q4 q5 z2 z3 z4 z5 z8
          go_wp2
          go_roundw
          case rel => exact ⟨3, by omega, by omega, rfl, (HT.put (by omega) (by simp <;> omega) 5 _).drew⟩
          case measure => simp [intOf]
        · have zi : IntKind.i64.wrap 2 = 2 := by rfl
          go_wp2_with fail
          go_roundw
          case rel => exact ⟨2, by omega, by omega, rfl, HT⟩
          case measure => simp [intOf]
    · have HT0 : Held w wr ((k1, ints (part2 [0, 0, 0, 0, 0, 0, 0, 0, 0] [(a0 * b0 + a1 * b3 + a2 * b6).tdiv 16, (a0 * b1 + a1 * b4 + a2 * b7).tdiv 16, (a0 * b2 + a1 * b5 + a2 * b8).tdiv 16, (a3 * b0 + a4 * b3 + a5 * b6).tdiv 16, (a3 * b1 + a4 * b4 + a5 * b7).tdiv 16, (a3 * b2 + a4 * b5 + a5 * b8).tdiv 16, (a6 * b0 + a7 * b3 + a8 * b6).tdiv 16, (a6 * b1 + a7 * b4 + a8 * b7).tdiv 16, (a6 * b2 + a7 * b5 + a8 * b8).tdiv 16] (6 + (0 : Int).toNat))) :: [(w.heap.size + 2, [.int .i64 0, .int .i64 0, .int .i64 0, .int .i64 0, .int .i64 0, .int .i64 0, .int .i64 0, .int .i64 0, .int .i64 0]), (w.heap.size + 1, [.int .i64 b0, .int .i64 b1, .int .i64 b2, .int .i64 b3, .int .i64 b4, .int .i64 b5, .int .i64 b6, .int .i64 b7, .int .i64 b8]), (w.heap.size, [.int .i64 a0, .int .i64 a1, .int .i64 a2, .int .i64 a3, .int .i64 a4, .int .i64 a5, .int .i64 a6, .int .i64 a7, .int .i64 a8])]) := HT
      clear HT
      go_upto_region 6 with fail
      go_loopw [7] (fun s wr => ∃ k : Int, 0 ≤ k ∧ k ≤ 3 ∧ s = .int .i64 k ∧ Held w wr ((k1, ints (part2 [0, 0, 0, 0, 0, 0, 0, 0, 0] [(a0 * b0 + a1 * b3 + a2 * b6).tdiv 16, (a0 * b1 + a1 * b4 + a2 * b7).tdiv 16, (a0 * b2 + a1 * b5 + a2 * b8).tdiv 16, (a3 * b0 + a4 * b3 + a5 * b6).tdiv 16, (a3 * b1 + a4 * b4 + a5 * b7).tdiv 16, (a3 * b2 + a4 * b5 + a5 * b8).tdiv 16, (a6 * b0 + a7 * b3 + a8 * b6).tdiv 16, (a6 * b1 + a7 * b4 + a8 * b7).tdiv 16, (a6 * b2 + a7 * b5 + a8 * b8).tdiv 16] (6 + k.toNat))) :: [(w.heap.size + 2, [.int .i64 0, .int .i64 0, .int .i64 0, .int .i64 0, .int .i64 0, .int .i64 0, .int .i64 0, .int .i64 0, .int .i64 0]), (w.heap.size + 1, [.int .i64 b0, .int .i64 b1, .int .i64 b2, .int .i64 b3, .int .i64 b4, .int .i64 b5, .int .i64 b6, .int .i64 b7, .int .i64 b8]), (w.heap.size, [.int .i64 a0, .int .i64 a1, .int .i64 a2, .int .i64 a3, .int .i64 a4, .int .i64 a5, .int .i64 a6, .int .i64 a7, .int .i64 a8])])) (fun s _ => 3 - (intOf s).toNat)
      case atStart => exact ⟨0, by omega, by omega, rfl, HT0⟩
      case round =>
        clear HT0
        obtain ⟨k, hk0, hk, rfl, HT⟩ := hrel
        have hk4 : k = 0 ∨ k = 1 ∨ k = 2 ∨ k = 3 := by omega
        clear hk hk0
        rcases hk4 with rfl | rfl | rfl | rfl
        · have HT : Held w wr ((k1, [.int .i64 ((a0 * b0 + a1 * b3 + a2 * b6).tdiv 16), .int .i64 ((a0 * b1 + a1 * b4 + a2 * b7).tdiv 16), .int .i64 ((a0 * b2 + a1 * b5 + a2 * b8).tdiv 16), .int .i64 ((a3 * b0 + a4 * b3 + a5 * b6).tdiv 16), .int .i64 ((a3 * b1 + a4 * b4 + a5 * b7).tdiv 16), .int .i64 ((a3 * b2 + a4 * b5 + a5 * b8).tdiv 16), .int .i64 0, .int .i64 0, .int .i64 0]) :: [(w.heap.size + 2, [.int .i64 0, .int .i64 0, .int .i64 0, .int .i64 0, .int .i64 0, .int .i64 0, .int .i64 0, .int .i64 0, .int .i64 0]), (w.heap.size + 1, [.int .i64 b0, .int .i64 b1, .int .i64 b2, .int .i64 b3, .int .i64 b4, .int .i64 b5, .int .i64 b6, .int .i64 b7, .int .i64 b8]), (w.heap.size, [.int .i64 a0, .int .i64 a1, .int .i64 a2, .int .i64 a3, .int .i64 a4, .int .i64 a5, .int .i64 a6, .int .i64 a7, .int .i64 a8])]) := HT
          have p0 := (HT.box 0).c 6
          have f0 := (HT.box 0).f 6
          have q0 := mm_w1 ma6 mb0
          have q1 := mm_w1 ma7 mb3
          have q2 := mm_w1 ma8 mb6
          have q3 := mm_w2 ma6 mb0 ma7 mb3
          have q4 := mm_w3 ma6 mb0 ma7 mb3 ma8 mb6
          have q5 := mm_q ma6 mb0 ma7 mb3 ma8 mb6
          have z0 : IntKind.i64.wrap 0 = 0 := by rfl
          have z3 : IntKind.i64.wrap 3 = 3 := by rfl
          have z6 : IntKind.i64.wrap 6 = 6 := by rfl
          have z7 : IntKind.i64.wrap 7 = 7 := by rfl
          have z8 : IntKind.i64.wrap 8 = 8 := by rfl
          clear ma0 mb0 ma1 mb1 ma2 mb2 ma3 mb3 ma4 mb4 ma5 mb5 ma6 mb6 ma7 mb7 ma8 mb8
          go_wp2_with fail
          go_region_held3 (fun w' => w'.cell? ⟨w.heap.size + 1, 0, none⟩ = some (.int .i64 b0) ∧ w'.cell? ⟨w.heap.size + 1, 1, none⟩ = some (.int .i64 b1) ∧ w'.cell? ⟨w.heap.size + 1, 2, none⟩ = some (.int .i64 b2) ∧ w'.cell? ⟨w.heap.size + 1, 3, none⟩ = some (.int .i64 b3) ∧ w'.cell? ⟨w.heap.size + 1, 4, none⟩ = some (.int .i64 b4) ∧ w'.cell? ⟨w.heap.size + 1, 5, none⟩ = some (.int .i64 b5) ∧ w'.cell? ⟨w.heap.size + 1, 6, none⟩ = some (.int .i64 b6) ∧ w'.cell? ⟨w.heap.size + 1, 7, none⟩ = some (.int .i64 b7) ∧ w'.cell? ⟨w.heap.size + 1, 8, none⟩ = some (.int .i64 b8) ∧ w'.cell? ⟨w.heap.size, 0, none⟩ = some (.int .i64 a0) ∧ w'.cell? ⟨w.heap.size, 1, none⟩ = some (.int .i64 a1) ∧ w'.cell? ⟨w.heap.size, 2, none⟩ = some (.int .i64 a2) ∧ w'.cell? ⟨w.heap.size, 3, none⟩ = some (.int .i64 a3) ∧ w'.cell? ⟨w.heap.size, 4, none⟩ = some (.int .i64 a4) ∧ w'.cell? ⟨w.heap.size, 5, none⟩ = some (.int .i64 a5) ∧ w'.cell? ⟨w.heap.size, 6, none⟩ = some (.int .i64 a6) ∧ w'.cell? ⟨w.heap.size, 7, none⟩ = some (.int .i64 a7) ∧ w'.cell? ⟨w.heap.size, 8, none⟩ = some (.int .i64 a8))
            (first | (with_reducible exact HC _ HT.tail) | (with_reducible exact HC _ HT.drew.tail) | (with_reducible exact HC _ (HT.tail.far (by omega) (by simp <;> omega) _)) | (with_reducible exact HC _ (HT.tail.far (by omega) (by simp <;> omega) _).drew))
            (fail)
          clear q0 q1 q2 q3 q4 q5 z0 z3 z6 z7 z8
          go_wp2
          go_roundw
          case rel => exact ⟨1, by omega, by omega, rfl, (HT.put (by omega) (by simp <;> omega) 6 _).drew⟩
          case measure => simp [intOf]
        · have HT : Held w wr ((k1, [.int .i64 ((a0 * b0 + a1 * b3 + a2 * b6).tdiv 16), .int .i64 ((a0 * b1 + a1 * b4 + a2 * b7).tdiv 16), .int .i64 ((a0 * b2 + a1 * b5 + a2 * b8).tdiv 16), .int .i64 ((a3 * b0 + a4 * b3 + a5 * b6).tdiv 16), .int .i64 ((a3 * b1 + a4 * b4 + a5 * b7).tdiv 16), .int .i64 ((a3 * b2 + a4 * b5 + a5 * b8).tdiv 16), .int .i64 ((a6 * b0 + a7 * b3 + a8 * b6).tdiv 16), .int .i64 0, .int .i64 0]) :: [(w.heap.size + 2, [.int .i64 0, .int .i64 0, .int .i64 0, .int .i64 0, .int .i64 0, .int .i64 0, .int .i64 0, .int .i64 0, .int .i64 0]), (w.heap.size + 1, [.int .i64 b0, .int .i64 b1, .int .i64 b2, .int .i64 b3, .int .i64 b4, .int .i64 b5, .int .i64 b6, .int .i64 b7, .int .i64 b8]), (w.heap.size, [.int .i64 a0, .int .i64 a1, .int .i64 a2, .int .i64 a3, .int .i64 a4, .int .i64 a5, .int .i64 a6, .int .i64 a7, .int .i64 a8])]) := HT
          have p0 := (HT.box 0).c 7
          have f0 := (HT.box 0).f 7
          have q0 := mm_w1 ma6 mb1
          have q1 := mm_w1 ma7 mb4
          have q2 := mm_w1 ma8 mb7
          have q3 := mm_w2 ma6 mb1 ma7 mb4
          have q4 := mm_w3 ma6 mb1 ma7 mb4 ma8 mb7
          have q5 := mm_q ma6 mb1 ma7 mb4 ma8 mb7
          have z1 : IntKind.i64.wrap 1 = 1 := by rfl
          have z4 : IntKind.i64.wrap 4 = 4 := by rfl
          have z6 : IntKind.i64.wrap 6 = 6 := by rfl
          have z7 : IntKind.i64.wrap 7 = 7 := by rfl
          have z8 : IntKind.i64.wrap 8 = 8 := by rfl
          clear ma0 mb0 ma1 mb1 ma2 mb2 ma3 mb3 ma4 mb4 ma5 mb5 ma6 mb6 ma7 mb7 ma8 mb8
          go_wp2_with fail
          go_region_held3 (fun w' => w'.cell? ⟨w.heap.size + 1, 0, none⟩ = some (.int .i64 b0) ∧ w'.cell? ⟨w.heap.size + 1, 1, none⟩ = some (.int .i64 b1) ∧ w'.cell? ⟨w.heap.size + 1, 2, none⟩ = some (.int .i64 b2) ∧ w'.cell? ⟨w.heap.size + 1, 3, none⟩ = some (.int .i64 b3) ∧ w'.cell? ⟨w.heap.size + 1, 4, none⟩ = some (.int .i64 b4) ∧ w'.cell? ⟨w.heap.size + 1, 5, none⟩ = some (.int .i64 b5) ∧ w'.cell? ⟨w.heap.size + 1, 6, none⟩ = some (.int .i64 b6) ∧ w'.cell? ⟨w.heap.size + 1, 7, none⟩ = some (.int .i64 b7) ∧ w'.cell? ⟨w.heap.size + 1, 8, none⟩ = some (.int .i64 b8) ∧ w'.cell? ⟨w.heap.size, 0, none⟩ = some (.int .i64 a0) ∧ w'.cell? ⟨w.heap.size, 1, none⟩ = some (.int .i64 a1) ∧ w'.cell? ⟨w.heap.size, 2, none⟩ = some (.int .i64 a2) ∧ w'.cell? ⟨w.heap.size, 3, none⟩ = some (.int .i64 a3) ∧ w'.cell? ⟨w.heap.size, 4, none⟩ = some (.int .i64 a4) ∧ w'.cell? ⟨w.heap.size, 5, none⟩ = some (.int .i64 a5) ∧ w'.cell? ⟨w.heap.size, 6, none⟩ = some (.int .i64 a6) ∧ w'.cell? ⟨w.heap.size, 7, none⟩ = some (.int .i64 a7) ∧ w'.cell? ⟨w.heap.size, 8, none⟩ = some (.int .i64 a8))
            (first | (with_reducible exact HC _ HT.tail) | (with_reducible exact HC _ HT.drew.tail) | (with_reducible exact HC _ (HT.tail.far (by omega) (by simp <;> omega) _)) | (with_reducible exact HC _ (HT.tail.far (by omega) (by simp <;> omega) _).drew))
            (fail)
          clear q0 q1 q2 q3 q4 q5 z1 z4 z6 z7 z8
          go_wp2
          go_roundw
          case rel => exact ⟨2, by omega, by omega, rfl, (HT.put (by omega) (by simp <;> omega) 7 _).drew⟩
          case measure => simp [intOf]
        · have HT : Held w wr ((k1, [.int .i64 ((a0 * b0 + a1 * b3 + a2 * b6).tdiv 16), .int .i64 ((a0 * b1 + a1 * b4 + a2 * b7).tdiv 16), .int .i64 ((a0 * b2 + a1 * b5 + a2 * b8).tdiv 16), .int .i64 ((a3 * b0 + a4 * b3 + a5 * b6).tdiv 16), .int .i64 ((a3 * b1 + a4 * b4 + a5 * b7).tdiv 16), .int .i64 ((a3 * b2 + a4 * b5 + a5 * b8).tdiv 16), .int .i64 ((a6 * b0 + a7 * b3 + a8 * b6).tdiv 16), .int .i64 ((a6 * b1 + a7 * b4 + a8 * b7).tdiv 16), .int .i64 0]) :: [(w.heap.size + 2, [.int .i64 0, .int .i64 0, .int .i64 0, .int .i64 0, .int .i64 0, .int .i64 0, .int .i64 0, .int .i64 0, .int .i64 0]), (w.heap.size + 1, [.int .i64 b0, .int .i64 b1, .int .i64 b2, .int .i64 b3, .int .i64 b4, .int .i64 b5, .int .i64 b6, .int .i64 b7, .int .i64 b8]), (w.heap.size, [.int .i64 a0, .int .i64 a1, .int .i64 a2, .int .i64 a3, .int .i64 a4, .int .i64 a5, .int .i64 a6, .int .i64 a7, .int .i64 a8])]) := HT
          have p0 := (HT.box 0).c 8
          have f0 := (HT.box 0).f 8
          have q0 := mm_w1 ma6 mb2
          have q1 := mm_w1 ma7 mb5
          have q2 := mm_w1 ma8 mb8
          have q3 := mm_w2 ma6 mb2 ma7 mb5
          have q4 := mm_w3 ma6 mb2 ma7 mb5 ma8 mb8
          have q5 := mm_q ma6 mb2 ma7 mb5 ma8 mb8
          have z2 : IntKind.i64.wrap 2 = 2 := by rfl
          have z5 : IntKind.i64.wrap 5 = 5 := by rfl
          have z6 : IntKind.i64.wrap 6 = 6 := by rfl
          have z7 : IntKind.i64.wrap 7 = 7 := by rfl
          have z8 : IntKind.i64.wrap 8 = 8 := by rfl
          clear ma0 mb0 ma1 mb1 ma2 mb2 ma3 mb3 ma4 mb4 ma5 mb5 ma6 mb6 ma7 mb7 ma8 mb8
          go_wp2_with fail
          go_region_held3 (fun w' => w'.cell? ⟨w.heap.size + 1, 0, none⟩ = some (.int .i64 b0) ∧ w'.cell? ⟨w.heap.size + 1, 1, none⟩ = some (.int .i64 b1) ∧ w'.cell? ⟨w.heap.size + 1, 2, none⟩ = some (.int .i64 b2) ∧ w'.cell? ⟨w.heap.size + 1, 3, none⟩ = some (.int .i64 b3) ∧ w'.cell? ⟨w.heap.size + 1, 4, none⟩ = some (.int .i64 b4) ∧ w'.cell? ⟨w.heap.size + 1, 5, none⟩ = some (.int .i64 b5) ∧ w'.cell? ⟨w.heap.size + 1, 6, none⟩ = some (.int .i64 b6) ∧ w'.cell? ⟨w.heap.size + 1, 7, none⟩ = some (.int .i64 b7) ∧ w'.cell? ⟨w.heap.size + 1, 8, none⟩ = some (.int .i64 b8) ∧ w'.cell? ⟨w.heap.size, 0, none⟩ = some (.int .i64 a0) ∧ w'.cell? ⟨w.heap.size, 1, none⟩ = some (.int .i64 a1) ∧ w'.cell? ⟨w.heap.size, 2, none⟩ = some (.int .i64 a2) ∧ w'.cell? ⟨w.heap.size, 3, none⟩ = some (.int .i64 a3) ∧ w'.cell? ⟨w.heap.size, 4, none⟩ = some (.int .i64 a4) ∧ w'.cell? ⟨w.heap.size, 5, none⟩ = some (.int .i64 a5) ∧ w'.cell? ⟨w.heap.size, 6, none⟩ = some (.int .i64 a6) ∧ w'.cell? ⟨w.heap.size, 7, none⟩ = some (.int .i64 a7) ∧ w'.cell? ⟨w.heap.size, 8, none⟩ = some (.int .i64 a8))
            (first | (with_reducible exact HC _ HT.tail) | (with_reducible exact HC _ HT.drew.tail) | (with_reducible exact HC _ (HT.tail.far (by omega) (by simp <;> omega) _)) | (with_reducible exact HC _ (HT.tail.far (by omega) (by simp <;> omega) _).drew))
            (fail)
          clear q0 q1 q2 q3 q4 q5 z2 z5 z6 z7 z8
          go_wp2
          go_roundw
          case rel => exact ⟨3, by omega, by omega, rfl, (HT.put (by omega) (by simp <;> omega) 8 _).drew⟩
          case measure => simp [intOf]
        · have zi : IntKind.i64.wrap 3 = 3 := by rfl
          go_wp2_with fail
          go_roundw
          case rel => exact ⟨3, by omega, by omega, rfl, HT⟩
          case measure => simp [intOf]
    · have HT : Held w wr ((k1, [.int .i64 ((a0 * b0 + a1 * b3 + a2 * b6).tdiv 16), .int .i64 ((a0 * b1 + a1 * b4 + a2 * b7).tdiv 16), .int .i64 ((a0 * b2 + a1 * b5 + a2 * b8).tdiv 16), .int .i64 ((a3 * b0 + a4 * b3 + a5 * b6).tdiv 16), .int .i64 ((a3 * b1 + a4 * b4 + a5 * b7).tdiv 16), .int .i64 ((a3 * b2 + a4 * b5 + a5 * b8).tdiv 16), .int .i64 ((a6 * b0 + a7 * b3 + a8 * b6).tdiv 16), .int .i64 ((a6 * b1 + a7 * b4 + a8 * b7).tdiv 16), .int .i64 ((a6 * b2 + a7 * b5 + a8 * b8).tdiv 16)]) :: [(w.heap.size + 2, [.int .i64 0, .int .i64 0, .int .i64 0, .int .i64 0, .int .i64 0, .int .i64 0, .int .i64 0, .int .i64 0, .int .i64 0]), (w.heap.size + 1, [.int .i64 b0, .int .i64 b1, .int .i64 b2, .int .i64 b3, .int .i64 b4, .int .i64 b5, .int .i64 b6, .int .i64 b7, .int .i64 b8]), (w.heap.size, [.int .i64 a0, .int .i64 a1, .int .i64 a2, .int .i64 a3, .int .i64 a4, .int .i64 a5, .int .i64 a6, .int .i64 a7, .int .i64 a8])]) := HT
      have c0 := (HT.box 0).c 0
      have c1 := (HT.box 0).c 1
      have c2 := (HT.box 0).c 2
      have c3 := (HT.box 0).c 3
      have c4 := (HT.box 0).c 4
      have c5 := (HT.box 0).c 5
      have c6 := (HT.box 0).c 6
      have c7 := (HT.box 0).c 7
      have c8 := (HT.box 0).c 8
      have r0 := (HT.box 1).c 0
      have r1 := (HT.box 1).c 1
      have r2 := (HT.box 1).c 2
      have r3 := (HT.box 1).c 3
      have r4 := (HT.box 1).c 4
      have r5 := (HT.box 1).c 5
      have r6 := (HT.box 1).c 6
      have r7 := (HT.box 1).c 7
      have r8 := (HT.box 1).c 8
      have g0 := (HT.box 1).f 0
      have g1 := (HT.box 1).f 1
      have g2 := (HT.box 1).f 2
      have g3 := (HT.box 1).f 3
      have g4 := (HT.box 1).f 4
      have g5 := (HT.box 1).f 5
      have g6 := (HT.box 1).f 6
      have g7 := (HT.box 1).f 7
      have g8 := (HT.box 1).f 8
      have HW := HT.below
      clear HT
      clear HC ma0 mb0 ma1 mb1 ma2 mb2 ma3 mb3 ma4 mb4 ma5 mb5 ma6 mb6 ma7 mb7 ma8 mb8
      go_wp2_with fail
      exact bodyPost_ret (v := mat ((a0 * b0 + a1 * b3 + a2 * b6).tdiv 16) ((a0 * b1 + a1 * b4 + a2 * b7).tdiv 16) ((a0 * b2 + a1 * b5 + a2 * b8).tdiv 16) ((a3 * b0 + a4 * b3 + a5 * b6).tdiv 16) ((a3 * b1 + a4 * b4 + a5 * b7).tdiv 16) ((a3 * b2 + a4 * b5 + a5 * b8).tdiv 16) ((a6 * b0 + a7 * b3 + a8 * b6).tdiv 16) ((a6 * b1 + a7 * b4 + a8 * b7).tdiv 16) ((a6 * b2 + a7 * b5 + a8 * b8).tdiv 16)) (by simp [results, Tryd.results94, go_sem, r0, r1, r2, r3, r4, r5, r6, r7, r8]) rfl ⟨rfl, bset_far9 HW (by omega)⟩
end Go.Proofs.YtjflkapdnnecjaaDoor
